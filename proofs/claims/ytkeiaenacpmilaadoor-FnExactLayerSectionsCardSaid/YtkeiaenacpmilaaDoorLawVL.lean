/-
  The laws of ValidLayer and IsFlat: whatever the layer, they return true. Conditions: parts no longer than a text may be.
-/
import Derived.Test.YtkeiaenacpmilaaDoorLayY
namespace Go.Proofs.YtkeiaenacpmilaaDoor
open Go.RowKit

theorem OwnE.formC {w : World} {base : Nat} {v : Value} {es : List Ent} (h : OwnE w base v es) : ∃ A c, v = .slice A es.length c ∧ es.length ≤ c ∧ EntsAt w A es := by
  obtain ⟨A, c, hv, hA⟩ := h.form
  refine ⟨A, c, hv, ?_, hA⟩
  rcases h.2 with ⟨h1, h0⟩ | ⟨g, cap, cur, h1, _, _, hc, _⟩
  · omega
  · rw [hv] at h1
    injection h1 with _ _ h3
    omega

theorem specVL_any (A : Option Addr) (c : Nat) (es : List Ent) (w : World) (hc0 : es.length ≤ c) (hf : EFit es) (hA : EntsAt w A es) :
    Calls Tryd.prog 17 #[.agg #[.slice A es.length c]] w fun e w' => e = .returned (.bool (vlayer es)) ∧ Grows w w' := by
  have HS := Lib.hid (fun w1 (g : Grows w w1) => specLayer_any A c es w1 hc0 hf (hA.keep g))
  clear hA hf hc0
  go_enter Tryd.func17, Tryd.ntmps17
  go_wp2_with fail
  refine (HS.out _ ((Grows.refl _).alloc _)).mono ?_
  rintro e w1 ⟨rfl, hg⟩
  go_wp2
  go_ret
  exact ⟨rfl, ((Grows.refl _).alloc _).trans hg⟩

/-- all entries set -/
def flatE (es : List Ent) : Bool := es.all fun e => decide (e.op = 0)
def vflat (es : List Ent) : Bool := flatE es && vlayer es
theorem vflat_no {es : List Ent} {k : Nat} (hk : k < es.length) (h : ¬ es[k].op = 0) : vflat es = false := by
  unfold vflat flatE
  rw [all_take_not (k := k + 1) (by rw [all_step hk]; simp [h])]; rfl

set_option maxRecDepth 100000 in
set_option maxHeartbeats 2000000 in
theorem specFlat0_any (A : Option Addr) (c : Nat) (es : List Ent) (w : World) (hc0 : es.length ≤ c) (hf : EFit es) (hA : EntsAt w A es) :
    Calls Tryd.prog 56 #[.agg #[.slice A es.length c]] w fun e w' => e = .returned (.bool (vflat es)) ∧ Grows w w' := by
  have hn := hf.1
  have HI := Lib.hid (fun w1 (g : Grows w w1) => specLayer_any A c es w1 hc0 hf (hA.keep g))
  have HA := Lib.hid hA
  clear hA hf hc0
  obtain ⟨n, hnn⟩ : ∃ n, es.length = n := ⟨_, rfl⟩
  rw [hnn] at hn HI
  rw [hnn]
  have HN := Lib.hid hnn
  clear hnn
  go_enter Tryd.func56, Tryd.ntmps56
  go_wp2
  go_loopw [3] (fun i wr => ∃ k : Nat, k ≤ n ∧ i = .int .i64 k ∧ Hid (flatE (es.take k) = true) ∧ Hid (Grows (w.alloc (lbox A n c)) wr)) (fun i _ => n - (intOf i).toNat)
  case atStart => exact ⟨0, Nat.zero_le _, rfl, by unfold Hid; rfl, Grows.refl _⟩
  case round =>
    obtain ⟨k, hk, rfl, HL, HG⟩ := hrel
    have hb0 := lbox_cell HG.out
    have hwr : w.heap.size < wr.heap.size := by have := HG.out.size; simp at this; omega
    by_cases hlt : k < n
    · obtain ⟨b, o, rfl, hb, hc⟩ := HA.out (by rw [HN.out]; omega)
      have hk2 : k < es.length := by rw [HN.out]; exact hlt
      obtain ⟨x, hx⟩ : ∃ x, es[k] = x := ⟨_, rfl⟩
      have hgr : Grows w wr := ((Grows.refl _).alloc _).trans HG.out
      have hat := (hc k hk2).keep hb hgr
      rw [hx] at hat
      obtain ⟨c0, c1, c2, c3⟩ := hat
      have HGR := Lib.hid hgr
      by_cases h0 : x.op = 0
      · have HS : Hid (flatE (es.take (k + 1)) = true) := by
          have h := HL.out
          unfold flatE at h
          unfold Hid flatE; rw [all_step hk2, h, hx]; simp [h0]
        obtain ⟨xs, xk, xo, xv⟩ := x
        simp only [] at *
        subst h0
        clear hx hc hgr
        go_wp2
        go_roundw
        case rel => exact ⟨k + 1, by omega, by go_num, HS, by first | exact HG | exact HG.out.alloc _⟩
        case measure => simp [intOf]; omega
      · have HZ : Hid (vflat es = false) := vflat_no hk2 (by rw [hx]; exact h0)
        have f0 : (x.op == 0) = false := by simp [h0]
        have f1 : (x.op != 0) = true := by simp [h0]
        clear hx hc hgr
        go_wp2
        go_ret
        exact ⟨ret_bool HZ.out.symm, by first | exact HGR.out | exact HGR.out.alloc _⟩
    · obtain rfl : k = n := by omega
      have HV : Hid (vflat es = vlayer es) := by
        have h := HL.out
        rw [List.take_of_length_le (by rw [HN.out]; exact Nat.le_refl _)] at h
        unfold Hid vflat
        rw [h]; rfl
      have hgr : Grows w wr := ((Grows.refl _).alloc _).trans HG.out
      go_wp2_with fail
      refine (HI.out _ hgr).mono ?_
      rintro e w1 ⟨rfl, g1⟩
      go_wp2
      go_ret
      exact ⟨ret_bool HV.out.symm, hgr.trans g1⟩

set_option maxRecDepth 100000 in
set_option maxHeartbeats 2000000 in
theorem implFlat_any (A : Option Addr) (c : Nat) (es : List Ent) (w : World) (hf : EFit es) (hA : EntsAt w A es) :
    Calls Tryd.prog 22 #[.agg #[.slice A es.length c]] w fun e w' => e = .returned (.bool (vflat es)) ∧ Grows w w' := by
  have hn := hf.1
  have HI := Lib.hid (fun w1 (g : Grows w w1) => implLayer_any A c es w1 hf (hA.keep g))
  have HA := Lib.hid hA
  clear hA hf 
  obtain ⟨n, hnn⟩ : ∃ n, es.length = n := ⟨_, rfl⟩
  rw [hnn] at hn HI
  rw [hnn]
  have HN := Lib.hid hnn
  clear hnn
  go_enter Tryd.func22, Tryd.ntmps22
  go_wp2
  go_loopw [8] (fun i wr => ∃ k : Nat, k ≤ n ∧ i = .int .i64 k ∧ Hid (flatE (es.take k) = true) ∧ Hid (Grows (w.alloc (lbox A n c)) wr)) (fun i _ => n - (intOf i).toNat)
  case atStart => exact ⟨0, Nat.zero_le _, rfl, by unfold Hid; rfl, Grows.refl _⟩
  case round =>
    obtain ⟨k, hk, rfl, HL, HG⟩ := hrel
    have hb0 := lbox_cell HG.out
    have hwr : w.heap.size < wr.heap.size := by have := HG.out.size; simp at this; omega
    by_cases hlt : k < n
    · obtain ⟨b, o, rfl, hb, hc⟩ := HA.out (by rw [HN.out]; omega)
      have hk2 : k < es.length := by rw [HN.out]; exact hlt
      obtain ⟨x, hx⟩ : ∃ x, es[k] = x := ⟨_, rfl⟩
      have hgr : Grows w wr := ((Grows.refl _).alloc _).trans HG.out
      have hat := (hc k hk2).keep hb hgr
      rw [hx] at hat
      obtain ⟨c0, c1, c2, c3⟩ := hat
      have HGR := Lib.hid hgr
      by_cases h0 : x.op = 0
      · have HS : Hid (flatE (es.take (k + 1)) = true) := by
          have h := HL.out
          unfold flatE at h
          unfold Hid flatE; rw [all_step hk2, h, hx]; simp [h0]
        obtain ⟨xs, xk, xo, xv⟩ := x
        simp only [] at *
        subst h0
        clear hx hc hgr
        go_wp2
        go_roundw
        case rel => exact ⟨k + 1, by omega, by go_num, HS, by first | exact HG | exact HG.out.alloc _⟩
        case measure => simp [intOf]; omega
      · have HZ : Hid (vflat es = false) := vflat_no hk2 (by rw [hx]; exact h0)
        have f0 : (x.op == 0) = false := by simp [h0]
        have f1 : (x.op != 0) = true := by simp [h0]
        clear hx hc hgr
        go_wp2
        go_ret
        exact ⟨ret_bool HZ.out.symm, by first | exact HGR.out | exact HGR.out.alloc _⟩
    · obtain rfl : k = n := by omega
      have HV : Hid (vflat es = vlayer es) := by
        have h := HL.out
        rw [List.take_of_length_le (by rw [HN.out]; exact Nat.le_refl _)] at h
        unfold Hid vflat
        rw [h]; rfl
      have hgr : Grows w wr := ((Grows.refl _).alloc _).trans HG.out
      go_wp2_with fail
      refine (HI.out _ hgr).mono ?_
      rintro e w1 ⟨rfl, g1⟩
      go_wp2
      go_ret
      exact ⟨ret_bool HV.out.symm, hgr.trans g1⟩

theorem specFlat_any (A : Option Addr) (c : Nat) (es : List Ent) (w : World) (hc0 : es.length ≤ c) (hf : EFit es) (hA : EntsAt w A es) :
    Calls Tryd.prog 21 #[.agg #[.slice A es.length c]] w fun e w' => e = .returned (.bool (vflat es)) ∧ Grows w w' := by
  have HS := Lib.hid (fun w1 (g : Grows w w1) => specFlat0_any A c es w1 hc0 hf (hA.keep g))
  clear hA hf hc0
  go_enter Tryd.func21, Tryd.ntmps21
  go_wp2_with fail
  refine (HS.out _ ((Grows.refl _).alloc _)).mono ?_
  rintro e w1 ⟨rfl, hg⟩
  go_wp2
  go_ret
  exact ⟨rfl, ((Grows.refl _).alloc _).trans hg⟩

set_option maxRecDepth 100000 in
set_option maxHeartbeats 1000000 in
theorem lawVL_any (A : Option Addr) (c : Nat) (ls : List Ent) (w : World) (hn : ls.length ≤ maxLen) (hr : ∀ i (h : i < ls.length), ls[i].inReach) (hA : EntsAt w A ls) :
    Calls Tryd.prog 4 #[.agg #[.slice A ls.length c]] w fun e w' => e = .returned (.bool true) ∧ Below w.heap.size w w' := by
  have HZ := Lib.hid (fun w1 (g : Grows w w1) => szLayer_any A c ls 1048576 w1 (by omega) (by omega) hn hr (hA.keep g))
  by_cases hw : (wents ls : Int) ≤ 1048576
  · have hf := efits_of hw (by omega)
    rw [less_of hw] at HZ
    have HT := Lib.hid (fun w1 (g : Grows w w1) => toLayer_any A c ls w1 hf.1 (hA.keep g))
    have HV := Lib.hid (fun (B : Option Addr) (d : Nat) w1 (hd : ls.length ≤ d) (h : EntsAt w1 B ls) => specVL_any B d ls w1 hd hf h)
    have HI := Lib.hid (fun (B : Option Addr) (d : Nat) w1 (h : EntsAt w1 B ls) => implLayer_any B d ls w1 hf h)
    have HE := Lib.hid (fun (v u : Value) (b1 b2 : Nat) (w1 : World) (h : OwnE w1 b1 v ls) (h2 : OwnE w1 b2 u ls) => eqLayer_own v u b1 b2 ls w1 hf.1 h h2)
    have HFO := Lib.hid (fun (v : Value) (b : Nat) (w1 : World) (h : OwnE w1 b v ls) => h.formC)
    obtain ⟨r, hrr⟩ : ∃ r, vlayer ls = r := ⟨_, rfl⟩
    rw [hrr] at HV HI
    obtain ⟨m, hm⟩ : ∃ m, (1048576 : Int) - (wents ls : Int) = m := ⟨_, rfl⟩
    rw [hm] at HZ
    have hm0 : 0 ≤ m := by omega
    clear hA hr hw hf hn hm hrr
    unfold ResE at HT
    obtain ⟨n, hnn⟩ : ∃ n, ls.length = n := ⟨_, rfl⟩
    rw [hnn] at HZ HT HV HI HFO ⊢
    clear hnn
    go_enter Tryd.func4, Tryd.ntmps4
    go_wp2_with fail
    refine (HZ.out _ ((Grows.refl _).alloc _)).mono ?_
    rintro e w1 ⟨rfl, g1⟩
    have G1 : Hid (Grows (w.alloc (.cells #[.slice A n c] 26)) w1) := g1
    have hx1 : w1.cell? ⟨w.heap.size, 0, none⟩ = some (.slice A n c) := (G1.out.cell (p := ⟨w.heap.size, 0, none⟩) (by simp)).trans (by simp)
    clear g1
    go_wp2_with fail
    refine (HT.out _ (((Grows.refl _).alloc _).trans G1.out)).mono ?_
    rintro e w2 ⟨v, rfl, hv, g2⟩
    obtain ⟨B, d, rfl, hd, hB⟩ := HFO.out _ _ _ hv
    have G2 : Hid (Grows (w.alloc (.cells #[.slice A n c] 26)) w2) := G1.out.trans g2
    have hx2 : w2.cell? ⟨w.heap.size, 0, none⟩ = some (.slice A n c) := (G2.out.cell (p := ⟨w.heap.size, 0, none⟩) (by simp)).trans (by simp)
    have HB2 := Lib.hid hB
    clear g2 hv hB
    go_wp2_with fail
    refine (HV.out _ _ _ hd HB2.out).mono ?_
    rintro e w3 ⟨rfl, g3⟩
    have G3 : Hid (Grows (w.alloc (.cells #[.slice A n c] 26)) w3) := G2.out.trans g3
    have hx3 : w3.cell? ⟨w.heap.size, 0, none⟩ = some (.slice A n c) := (G3.out.cell (p := ⟨w.heap.size, 0, none⟩) (by simp)).trans (by simp)
    clear g3 HB2 hd
    go_wp2_with fail
    refine (HT.out _ (((Grows.refl _).alloc _).trans G3.out)).mono ?_
    rintro e w4 ⟨u, rfl, hu, g4⟩
    have HU4 := Lib.hid hu
    obtain ⟨C, d2, rfl, hd2, hC⟩ := HFO.out _ _ _ hu
    have G4 : Hid (Grows (w.alloc (.cells #[.slice A n c] 26)) w4) := G3.out.trans g4
    have hx4 : w4.cell? ⟨w.heap.size, 0, none⟩ = some (.slice A n c) := (G4.out.cell (p := ⟨w.heap.size, 0, none⟩) (by simp)).trans (by simp)
    have HC4 := Lib.hid hC
    clear g4 hu hC hd2
    go_wp2_with fail
    refine (HI.out _ _ _ (HC4.out.keep ((Grows.refl _).alloc _))).mono ?_
    rintro e w5 ⟨rfl, g5⟩
    have G5 : Hid (Grows (w.alloc (.cells #[.slice A n c] 26)) w5) := (G4.out.alloc _).trans g5
    have hx5 : w5.cell? ⟨w.heap.size, 0, none⟩ = some (.slice A n c) := (G5.out.cell (p := ⟨w.heap.size, 0, none⟩) (by simp)).trans (by simp)
    have hy5 : w5.cell? ⟨w4.heap.size, 0, none⟩ = some (.slice C n d2) := (g5.cell (p := ⟨w4.heap.size, 0, none⟩) (by simp)).trans (by simp)
    have HU5 := Lib.hid ((HU4.out.keep ((Grows.refl _).alloc _)).keep g5)
    have HGW : Hid (Grows w w5) := ((Grows.refl _).alloc _).trans G5.out
    clear g5 HC4
    go_wp2_with fail
    refine wp_region_M 3 (CellsAre [(⟨w4.heap.size, 0, none⟩, .slice C n d2), (⟨w.heap.size, 0, none⟩, .slice A n c)]) (by kernel_rfl) (by kernel_rfl) ⟨hy5, hx5, trivial⟩ (fun hB hS => ?_)
    refine wpAnyM_take (i := 0) (v := ?va0) hB rfl (by kernel_rfl) (fun _ _ _ h => h) (by rfl) ?ya0 hS ?na0
    case ya0 => (intro w9 hSw; obtain ⟨s1, s2, _⟩ := hSw; go_simp; try with_reducible rfl)
    refine wpAnyM_take (i := 1) (v := ?va1) hB rfl (by kernel_rfl) (fun _ _ _ h => h) (by rfl) ?ya1 hS ?na1
    case ya1 => (intro w9 hSw; obtain ⟨s1, s2, _⟩ := hSw; go_simp; try with_reducible rfl)
    refine wpAnyM_one (i := 2) rfl (by kernel_rfl) rfl ?_
    clear hx5 hy5
    have HS := Lib.hid hS
    clear hS
    go_wp2_with fail
    refine (HT.out _ HGW.out.drew).mono ?_
    rintro e w6 ⟨u2, rfl, hu2, g6⟩
    have HU6 := Lib.hid hu2
    obtain ⟨D, d3, rfl, hd3, hD⟩ := HFO.out _ _ _ hu2
    have HS6 := Lib.hid (CellsAre.keep HS.out g6)
    have HU7 : Hid (OwnE w6 _ _ _) := OwnE.keep (w := w5.drew) HU5.out g6
    have G6 : Hid (Grows w w6) := HGW.out.drew.trans g6
    clear g6 hu2 hD hd3 HS
    go_wp2_with fail
    refine ⟨HS6.out, ?_⟩
    refine wpAnyM_tail (by kernel_rfl) ?_
    clear HS6 hB
    go_wp2_with fail
    refine (HE.out _ _ _ _ _ HU7.out HU6.out).mono ?_
    rintro e w7 ⟨rfl, g7⟩
    go_wp2
    go_ret
    exact ⟨rfl, (G6.out.trans g7).below⟩
  · rw [less_no (by omega)] at HZ
    clear hA hr hw hn
    go_enter Tryd.func4, Tryd.ntmps4
    go_wp2_with fail
    refine (HZ.out _ ((Grows.refl _).alloc _)).mono ?_
    rintro e w1 ⟨rfl, g1⟩
    go_wp2
    go_ret
    exact ⟨rfl, (((Grows.refl _).alloc _).trans g1).below⟩

set_option maxRecDepth 100000 in
set_option maxHeartbeats 1000000 in
theorem lawFlat_any (A : Option Addr) (c : Nat) (ls : List Ent) (w : World) (hn : ls.length ≤ maxLen) (hr : ∀ i (h : i < ls.length), ls[i].inReach) (hA : EntsAt w A ls) :
    Calls Tryd.prog 5 #[.agg #[.slice A ls.length c]] w fun e w' => e = .returned (.bool true) ∧ Below w.heap.size w w' := by
  have HZ := Lib.hid (fun w1 (g : Grows w w1) => szLayer_any A c ls 1048576 w1 (by omega) (by omega) hn hr (hA.keep g))
  by_cases hw : (wents ls : Int) ≤ 1048576
  · have hf := efits_of hw (by omega)
    rw [less_of hw] at HZ
    have HT := Lib.hid (fun w1 (g : Grows w w1) => toLayer_any A c ls w1 hf.1 (hA.keep g))
    have HV := Lib.hid (fun (B : Option Addr) (d : Nat) w1 (hd : ls.length ≤ d) (h : EntsAt w1 B ls) => specFlat_any B d ls w1 hd hf h)
    have HI := Lib.hid (fun (B : Option Addr) (d : Nat) w1 (h : EntsAt w1 B ls) => implFlat_any B d ls w1 hf h)
    have HE := Lib.hid (fun (v u : Value) (b1 b2 : Nat) (w1 : World) (h : OwnE w1 b1 v ls) (h2 : OwnE w1 b2 u ls) => eqLayer_own v u b1 b2 ls w1 hf.1 h h2)
    have HFO := Lib.hid (fun (v : Value) (b : Nat) (w1 : World) (h : OwnE w1 b v ls) => h.formC)
    obtain ⟨r, hrr⟩ : ∃ r, vflat ls = r := ⟨_, rfl⟩
    rw [hrr] at HV HI
    obtain ⟨m, hm⟩ : ∃ m, (1048576 : Int) - (wents ls : Int) = m := ⟨_, rfl⟩
    rw [hm] at HZ
    have hm0 : 0 ≤ m := by omega
    clear hA hr hw hf hn hm hrr
    unfold ResE at HT
    obtain ⟨n, hnn⟩ : ∃ n, ls.length = n := ⟨_, rfl⟩
    rw [hnn] at HZ HT HV HI HFO ⊢
    clear hnn
    go_enter Tryd.func5, Tryd.ntmps5
    go_wp2_with fail
    refine (HZ.out _ ((Grows.refl _).alloc _)).mono ?_
    rintro e w1 ⟨rfl, g1⟩
    have G1 : Hid (Grows (w.alloc (.cells #[.slice A n c] 26)) w1) := g1
    have hx1 : w1.cell? ⟨w.heap.size, 0, none⟩ = some (.slice A n c) := (G1.out.cell (p := ⟨w.heap.size, 0, none⟩) (by simp)).trans (by simp)
    clear g1
    go_wp2_with fail
    refine (HT.out _ (((Grows.refl _).alloc _).trans G1.out)).mono ?_
    rintro e w2 ⟨v, rfl, hv, g2⟩
    obtain ⟨B, d, rfl, hd, hB⟩ := HFO.out _ _ _ hv
    have G2 : Hid (Grows (w.alloc (.cells #[.slice A n c] 26)) w2) := G1.out.trans g2
    have hx2 : w2.cell? ⟨w.heap.size, 0, none⟩ = some (.slice A n c) := (G2.out.cell (p := ⟨w.heap.size, 0, none⟩) (by simp)).trans (by simp)
    have HB2 := Lib.hid hB
    clear g2 hv hB
    go_wp2_with fail
    refine (HV.out _ _ _ hd HB2.out).mono ?_
    rintro e w3 ⟨rfl, g3⟩
    have G3 : Hid (Grows (w.alloc (.cells #[.slice A n c] 26)) w3) := G2.out.trans g3
    have hx3 : w3.cell? ⟨w.heap.size, 0, none⟩ = some (.slice A n c) := (G3.out.cell (p := ⟨w.heap.size, 0, none⟩) (by simp)).trans (by simp)
    clear g3 HB2 hd
    go_wp2_with fail
    refine (HT.out _ (((Grows.refl _).alloc _).trans G3.out)).mono ?_
    rintro e w4 ⟨u, rfl, hu, g4⟩
    have HU4 := Lib.hid hu
    obtain ⟨C, d2, rfl, hd2, hC⟩ := HFO.out _ _ _ hu
    have G4 : Hid (Grows (w.alloc (.cells #[.slice A n c] 26)) w4) := G3.out.trans g4
    have hx4 : w4.cell? ⟨w.heap.size, 0, none⟩ = some (.slice A n c) := (G4.out.cell (p := ⟨w.heap.size, 0, none⟩) (by simp)).trans (by simp)
    have HC4 := Lib.hid hC
    clear g4 hu hC hd2
    go_wp2_with fail
    refine (HI.out _ _ _ (HC4.out.keep ((Grows.refl _).alloc _))).mono ?_
    rintro e w5 ⟨rfl, g5⟩
    have G5 : Hid (Grows (w.alloc (.cells #[.slice A n c] 26)) w5) := (G4.out.alloc _).trans g5
    have hx5 : w5.cell? ⟨w.heap.size, 0, none⟩ = some (.slice A n c) := (G5.out.cell (p := ⟨w.heap.size, 0, none⟩) (by simp)).trans (by simp)
    have hy5 : w5.cell? ⟨w4.heap.size, 0, none⟩ = some (.slice C n d2) := (g5.cell (p := ⟨w4.heap.size, 0, none⟩) (by simp)).trans (by simp)
    have HU5 := Lib.hid ((HU4.out.keep ((Grows.refl _).alloc _)).keep g5)
    have HGW : Hid (Grows w w5) := ((Grows.refl _).alloc _).trans G5.out
    clear g5 HC4
    go_wp2_with fail
    refine wp_region_M 3 (CellsAre [(⟨w4.heap.size, 0, none⟩, .slice C n d2), (⟨w.heap.size, 0, none⟩, .slice A n c)]) (by kernel_rfl) (by kernel_rfl) ⟨hy5, hx5, trivial⟩ (fun hB hS => ?_)
    refine wpAnyM_take (i := 0) (v := ?va0) hB rfl (by kernel_rfl) (fun _ _ _ h => h) (by rfl) ?ya0 hS ?na0
    case ya0 => (intro w9 hSw; obtain ⟨s1, s2, _⟩ := hSw; go_simp; try with_reducible rfl)
    refine wpAnyM_take (i := 1) (v := ?va1) hB rfl (by kernel_rfl) (fun _ _ _ h => h) (by rfl) ?ya1 hS ?na1
    case ya1 => (intro w9 hSw; obtain ⟨s1, s2, _⟩ := hSw; go_simp; try with_reducible rfl)
    refine wpAnyM_one (i := 2) rfl (by kernel_rfl) rfl ?_
    clear hx5 hy5
    have HS := Lib.hid hS
    clear hS
    go_wp2_with fail
    refine (HT.out _ HGW.out.drew).mono ?_
    rintro e w6 ⟨u2, rfl, hu2, g6⟩
    have HU6 := Lib.hid hu2
    obtain ⟨D, d3, rfl, hd3, hD⟩ := HFO.out _ _ _ hu2
    have HS6 := Lib.hid (CellsAre.keep HS.out g6)
    have HU7 : Hid (OwnE w6 _ _ _) := OwnE.keep (w := w5.drew) HU5.out g6
    have G6 : Hid (Grows w w6) := HGW.out.drew.trans g6
    clear g6 hu2 hD hd3 HS
    go_wp2_with fail
    refine ⟨HS6.out, ?_⟩
    refine wpAnyM_tail (by kernel_rfl) ?_
    clear HS6 hB
    go_wp2_with fail
    refine (HE.out _ _ _ _ _ HU7.out HU6.out).mono ?_
    rintro e w7 ⟨rfl, g7⟩
    go_wp2
    go_ret
    exact ⟨rfl, (G6.out.trans g7).below⟩
  · rw [less_no (by omega)] at HZ
    clear hA hr hw hn
    go_enter Tryd.func5, Tryd.ntmps5
    go_wp2_with fail
    refine (HZ.out _ ((Grows.refl _).alloc _)).mono ?_
    rintro e w1 ⟨rfl, g1⟩
    go_wp2
    go_ret
    exact ⟨rfl, (((Grows.refl _).alloc _).trans g1).below⟩
end Go.Proofs.YtkeiaenacpmilaaDoor
