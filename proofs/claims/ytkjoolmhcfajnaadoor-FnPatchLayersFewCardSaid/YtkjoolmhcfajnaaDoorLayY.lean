/-
  The program's map of entries and its test of a layer: the plain test 'vlayer'. Conditions: parts of at most 1048576 bytes.
-/
import Derived.Test.YtkjoolmhcfajnaaDoorLayX
namespace Go.Proofs.YtkjoolmhcfajnaaDoor
open Go.RowKit

/-- what a call makes is no memory that was there -/
theorem Grows.mark2 {a b c : World} {p : Nat} (h : Grows a b) (g : b.grownBy c (some p)) (hp : a.heap.size ≤ p) : Grows a c :=
  ⟨g.os.trans h.os, g.tape.trans h.tape, g.output.trans h.output, Nat.le_trans h.size g.size, fun i hi => (g.block i (Nat.lt_of_lt_of_le hi h.size) (fun e => by injection e with e; omega)).trans (h.block i hi)⟩
/-- a call's end: it returns a map of these entries, of its own -/
def ResM (es : List Ent) (w : World) (e : Ending) (w' : World) : Prop := ∃ b, e = .returned (.map (some b)) ∧ MapE w' b es ∧ w.heap.size ≤ b ∧ Grows w w'

set_option maxRecDepth 100000 in
set_option maxHeartbeats 4000000 in
theorem byPlace_any (A : Option Addr) (c : Nat) (es : List Ent) (w : World) (hf : EFit es) (hA : EntsAt w A es) :
    Calls Tryd.prog 28 #[.agg #[.slice A es.length c]] w (ResM es w) := by
  have hn := hf.1
  have HF := Lib.hid hf.2
  have HA := Lib.hid hA
  clear hA hf
  obtain ⟨n, hnn⟩ : ∃ n, es.length = n := ⟨_, rfl⟩
  rw [hnn] at hn
  rw [hnn]
  have HN := Lib.hid hnn
  clear hnn
  have hmm := @run_makeMap Tryd.prog
  have HM0 : Hid (MapE ((w.alloc (lbox A n c)).alloc (.map #[] 0)) (w.heap.size + 1) []) := by
    have h := MapE.new (w.alloc (lbox A n c))
    simp only [World.size_alloc] at h
    exact h
  go_enter Tryd.func28, Tryd.ntmps28
  go_wp2
  go_loopw [10] (fun i wr => ∃ k : Nat, k ≤ n ∧ i = .int .i64 k ∧ Hid (MapE wr (w.heap.size + 1) (es.take k)) ∧ Hid (Grows (w.alloc (lbox A n c)) wr)) (fun i _ => n - (intOf i).toNat)
  case atStart => exact ⟨0, Nat.zero_le _, rfl, HM0, (Grows.refl _).alloc _⟩
  case round =>
    obtain ⟨k, hk, rfl, HM, HG⟩ := hrel
    by_cases hlt : k < n
    · obtain ⟨b, o, rfl, hb, hc⟩ := HA.out (by rw [HN.out]; omega)
      have hk2 : k < es.length := by rw [HN.out]; exact hlt
      obtain ⟨x, hx⟩ : ∃ x, es[k] = x := ⟨_, rfl⟩
      have hfx := HF.out k hk2
      have hgr : Grows w wr := ((Grows.refl _).alloc _).trans HG.out
      have hat := (hc k hk2).keep hb hgr
      rw [hx] at hat hfx
      obtain ⟨c0, c1, c2, c3⟩ := hat
      have HP := Lib.hid (fun w => placeOf_any x w)
      have HX : Hid (es.take (k + 1) = es.take k ++ [x]) := by unfold Hid; rw [List.take_succ_eq_append_getElem hk2, hx]
      have HFX : Hid x.fit := ⟨hfx.1, hfx.2.1⟩
      have htl : (es.take k).length ≤ 1048576 := by rw [List.length_take]; omega
      clear hx hc hgr hfx
      unfold Ent.agg at HP
      go_wp2_with fail
      have e0 : (wr.alloc (.cells #[.string x.s, .string x.k, .int .i64 x.op, .string x.v] 33)).cell? ⟨wr.heap.size, 0, none⟩ = some (.string x.s) := by simp
      have e1 : (wr.alloc (.cells #[.string x.s, .string x.k, .int .i64 x.op, .string x.v] 33)).cell? ⟨wr.heap.size, 1, none⟩ = some (.string x.k) := by simp
      have e2 : (wr.alloc (.cells #[.string x.s, .string x.k, .int .i64 x.op, .string x.v] 33)).cell? ⟨wr.heap.size, 2, none⟩ = some (.int .i64 x.op) := by simp
      have e3 : (wr.alloc (.cells #[.string x.s, .string x.k, .int .i64 x.op, .string x.v] 33)).cell? ⟨wr.heap.size, 3, none⟩ = some (.string x.v) := by simp
      refine wp_region_M 4 (CellsAre [(⟨wr.heap.size, 0, none⟩, .string x.s), (⟨wr.heap.size, 1, none⟩, .string x.k), (⟨wr.heap.size, 2, none⟩, .int .i64 x.op), (⟨wr.heap.size, 3, none⟩, .string x.v)]) (by kernel_rfl) (by kernel_rfl) ⟨e0, e1, e2, e3, trivial⟩ (fun hB hS => ?_)
      clear e0 e1 e2 e3
      refine wpAnyM_take (i := 0) (v := ?va0) hB rfl (by kernel_rfl) (fun _ _ _ h => h) (by rfl) ?ya0 hS ?na0
      case ya0 => (intro w9 hSw; obtain ⟨s1, s2, s3, s4, _⟩ := hSw; go_simp; try with_reducible rfl)
      refine wpAnyM_take (i := 1) (v := ?va1) hB rfl (by kernel_rfl) (fun _ _ _ h => h) (by rfl) ?ya1 hS ?na1
      case ya1 => (intro w9 hSw; obtain ⟨s1, s2, s3, s4, _⟩ := hSw; go_simp; try with_reducible rfl)
      refine wpAnyM_take (i := 3) (v := ?va3) hB rfl (by kernel_rfl) (fun _ _ _ h => h) (by rfl) ?ya3 hS ?na3
      case ya3 => (intro w9 hSw; obtain ⟨s1, s2, s3, s4, _⟩ := hSw; go_simp; try with_reducible rfl)
      refine wpAnyM_one (i := 2) rfl (by kernel_rfl) rfl ?_
      have HS := Lib.hid hS
      clear hS
      have HW0 : Hid (Grows wr (wr.alloc (.cells #[.string x.s, .string x.k, .int .i64 x.op, .string x.v] 33)).drew) := ((Grows.refl _).alloc _).drew
      go_wp2_with fail
      refine (HP.out _).mono ?_
      rintro e w1 ⟨rfl, g1⟩
      have HW1 : Hid (Grows wr w1) := HW0.out.trans g1
      have HS1 := Lib.hid (CellsAre.keep HS.out g1)
      have HM1 := Lib.hid (HM.out.keep HW1.out)
      clear g1 HS HW0
      go_wp2_with fail
      refine ⟨HS1.out, ?_⟩
      refine wpAnyM_tail (by kernel_rfl) ?_
      clear HS1 hB
      go_wp2_with (at_mapUpdate; refine putE_any rfl _ _ _ rfl (w.heap.size + 1) (es.take k) HM1.out rfl x rfl rfl HFX.out htl ?_; intro w3 HM3 HG3)
      go_roundw
      case rel =>
        refine ⟨k + 1, by omega, by go_num, ?_, ?_⟩
        · unfold Hid; rw [HX.out]; exact HM3.out
        · exact Grows.mark2 (HG.out.trans HW1.out) HG3.out (by simp)
      case measure => simp [intOf]; omega
    · obtain rfl : k = n := by omega
      go_wp2
      go_ret
      refine ⟨_, rfl, ?_, by omega, ((Grows.refl _).alloc _).trans HG.out⟩
      have h := HM.out
      rw [List.take_of_length_le (by rw [HN.out]; exact Nat.le_refl _)] at h
      exact h

theorem fit_mem {es : List Ent} (h : ∀ i (h : i < es.length), es[i].fits) : ∀ e ∈ es, e.fit := fun e he => by
  obtain ⟨i, hi, rfl⟩ := List.getElem_of_mem he
  exact ⟨(h i hi).1, (h i hi).2.1⟩
theorem vlayer_long {es : List Ent} (h : 20 < es.length) : vlayer es = false := by unfold vlayer; rw [decide_eq_false (by omega)]; simp
theorem vlayer_size {es : List Ent} (h : ∀ i (h : i < es.length), es[i].fits) (h1 : es.all vent = true) (h2 : es.length ≤ 20) : (vlayer es = true ↔ Maps.size (mapOf es) = es.length) := by
  rw [mapOf_size es (fit_mem h)]
  unfold vlayer okE
  simp [h1, h2]

set_option maxRecDepth 100000 in
set_option maxHeartbeats 4000000 in
theorem implLayer_any (A : Option Addr) (c : Nat) (es : List Ent) (w : World) (hf : EFit es) (hA : EntsAt w A es) :
    Calls Tryd.prog 23 #[.agg #[.slice A es.length c]] w fun e w' => e = .returned (.bool (vlayer es)) ∧ Grows w w' := by
  have hn := hf.1
  have HBP := Lib.hid (fun w1 (g : Grows w w1) => byPlace_any A c es w1 hf (hA.keep g))
  have HF := Lib.hid hf.2
  have HA := Lib.hid hA
  clear hA hf
  obtain ⟨n, hnn⟩ : ∃ n, es.length = n := ⟨_, rfl⟩
  have HY : Hid (es.all vent = true → n ≤ 20 → (vlayer es = true ↔ Maps.size (mapOf es) = n)) := fun h1 h2 => by rw [← hnn]; exact vlayer_size HF.out h1 (by omega)
  unfold ResM at HBP
  rw [hnn] at hn HBP
  rw [hnn]
  have HN := Lib.hid hnn
  clear hnn
  by_cases h20 : n ≤ 20
  · go_enter Tryd.func23, Tryd.ntmps23
    go_wp2
    go_loopw [12] (fun i wr => ∃ k : Nat, k ≤ n ∧ i = .int .i64 k ∧ Hid ((es.take k).all vent = true) ∧ Hid (Grows (w.alloc (lbox A n c)) wr)) (fun i _ => n - (intOf i).toNat)
    case atStart => exact ⟨0, Nat.zero_le _, rfl, by unfold Hid; rfl, Grows.refl _⟩
    case round =>
      obtain ⟨k, hk, rfl, HL, HG⟩ := hrel
      by_cases hlt : k < n
      · obtain ⟨b, o, rfl, hb, hc⟩ := HA.out (by rw [HN.out]; omega)
        have hk2 : k < es.length := by rw [HN.out]; exact hlt
        obtain ⟨x, hx⟩ : ∃ x, es[k] = x := ⟨_, rfl⟩
        have hfx := HF.out k hk2
        have hgr : Grows w wr := ((Grows.refl _).alloc _).trans HG.out
        have hat := (hc k hk2).keep hb hgr
        rw [hx] at hat hfx
        obtain ⟨c0, c1, c2, c3⟩ := hat
        obtain ⟨f1, f2, f3⟩ := hfx
        have HV := Lib.hid (fun w => validEntry_any x w f1 f2 f3)
        have HX : Hid ((es.take (k + 1)).all vent = ((es.take k).all vent && vent x)) := by unfold Hid; rw [all_step hk2, hx]
        clear hx hc hgr
        unfold Ent.agg at HV
        by_cases hv : vent x = true
        · have HS : Hid ((es.take (k + 1)).all vent = true) := by unfold Hid; rw [HX.out, HL.out, hv]; rfl
          rw [hv] at HV
          clear hv
          go_wp2_with fail
          refine (HV.out _).mono ?_
          rintro e w1 ⟨rfl, g1⟩
          have HG1 := Lib.hid ((HG.out.alloc _).trans g1)
          clear g1
          go_wp2
          go_roundw
          case rel => exact ⟨k + 1, by omega, by go_num, HS, HG1⟩
          case measure => simp [intOf]; omega
        · have hv' : vent x = false := by simpa using hv
          have HZ : Hid (vlayer es = false) := by
            refine vlayer_no ?_
            unfold okE
            rw [all_take_not (k := k + 1) (by rw [HX.out, hv']; simp)]; rfl
          rw [hv'] at HV
          clear hv hv'
          go_wp2_with fail
          refine (HV.out _).mono ?_
          rintro e w1 ⟨rfl, g1⟩
          have HG1 := Lib.hid (((Grows.refl w).alloc _).trans ((HG.out.alloc _).trans g1))
          clear g1
          go_wp2
          go_ret
          exact ⟨ret_bool HZ.out.symm, HG1.out⟩
      · obtain rfl : k = n := by omega
        have hb0 := lbox_cell HG.out
        have hgr : Grows w wr := ((Grows.refl _).alloc _).trans HG.out
        have HZ : Hid (vlayer es = true ↔ Maps.size (mapOf es) = k) := HY.out (by
          have h := HL.out
          rw [List.take_of_length_le (by rw [HN.out]; exact Nat.le_refl _)] at h
          exact h) h20
        have hsl : Hid (Maps.size (mapOf es) ≤ k) := by have := mapOf_size_le es; rw [HN.out] at this; exact this
        have HGR := Lib.hid hgr
        clear hgr
        go_wp2_with fail
        refine wp_region_M 6 (CellsAre [(⟨w.heap.size, 0, none⟩, .slice A k c)]) (by kernel_rfl) (by kernel_rfl) ⟨hb0, trivial⟩ (fun hB hS => ?_)
        clear hb0
        refine wpAnyM_take (i := 0) (v := ?vb0) hB rfl (by kernel_rfl) (fun _ _ _ h => h) (by rfl) ?yb0 hS ?nb0
        case yb0 => (intro w9 hSw; obtain ⟨s1, _⟩ := hSw; go_simp; try with_reducible rfl)
        refine wpAnyM_take (i := 3) (v := ?vb3) hB rfl (by kernel_rfl) (fun _ _ _ h => h) (by rfl) ?yb3 hS ?nb3
        case yb3 => (intro w9 hSw; obtain ⟨s1, _⟩ := hSw; go_simp; try with_reducible rfl)
        refine wpAnyM_take (i := 4) (v := ?vb4) hB rfl (by kernel_rfl) (fun _ _ _ h => h) (by rfl) ?yb4 hS ?nb4
        case yb4 => (intro w9 hSw; obtain ⟨s1, _⟩ := hSw; go_simp; try with_reducible rfl)
        refine wpAnyM_take (i := 5) (v := ?vb5) hB rfl (by kernel_rfl) (fun _ _ _ h => h) (by rfl) ?yb5 hS ?nb5
        case yb5 => (intro w9 hSw; obtain ⟨s1, _⟩ := hSw; go_simp; try with_reducible rfl)
        refine wpAnyM_one (i := 1) rfl (by kernel_rfl) rfl ?_
        have HS := Lib.hid hS
        clear hS
        go_wp2_with fail
        refine (HBP.out _ HGR.out.drew).mono ?_
        rintro e w1 ⟨b, rfl, hM, hb, g1⟩
        have HM1 := Lib.hid hM
        have HS1 := Lib.hid (CellsAre.keep HS.out g1)
        have HG1 : Hid (Grows w w1) := HGR.out.drew.trans g1
        clear g1 HS hM hb
        go_wp2_with fail
        refine ⟨HS1.out, ?_⟩
        refine wpAnyM_one (i := 2) rfl (by kernel_rfl) rfl ?_
        refine lenE_any rfl _ rfl b es HM1.out (by simp [Act.eval]) ?_
        go_wp2_with fail
        refine ⟨HS1.out, ?_⟩
        refine wpAnyM_tail (by kernel_rfl) ?_
        clear HS1 hB
        obtain ⟨q, hq⟩ : ∃ q, Maps.size (mapOf es) = q := ⟨_, rfl⟩
        rw [hq] at HZ hsl ⊢
        have hqk : q ≤ k := hsl.out
        clear hq
        by_cases hqn : q = k
        · have HV : Hid (vlayer es = true) := HZ.out.2 hqn
          subst hqn
          go_wp2
          go_ret
          exact ⟨ret_bool (by rw [HV.out]; try simp), HG1.out⟩
        · have HV : Hid (vlayer es = false) := Bool.eq_false_iff.2 (fun h => hqn (HZ.out.1 h))
          have hlt2 : q < k := by omega
          go_wp2
          go_ret
          exact ⟨ret_bool (by first | exact HV.out.symm | (rw [HV.out]; simp; omega)), HG1.out⟩
  · have HZ : Hid (vlayer es = false) := vlayer_long (by rw [HN.out]; omega)
    go_enter Tryd.func23, Tryd.ntmps23
    go_wp2
    go_ret
    exact ⟨ret_bool HZ.out.symm, (Grows.refl _).alloc _⟩
end Go.Proofs.YtkjoolmhcfajnaaDoor
