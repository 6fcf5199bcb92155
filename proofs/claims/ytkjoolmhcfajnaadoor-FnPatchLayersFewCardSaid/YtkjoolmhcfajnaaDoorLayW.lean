/-
  What the two tests of a layer return, ValidLayer of the specification and of the program, and IsFlat of both: the plain test 'vlayer'. Conditions: parts of at most 1048576 bytes.
-/
import Derived.Test.YtkjoolmhcfajnaaDoorMapE
import Derived.Test.YtkjoolmhcfajnaaDoorEntH
import Derived.Test.YtkjoolmhcfajnaaDoorStr
import Derived.Test.YtkjoolmhcfajnaaDoorRegM
import Derived.Deep.QuietTactic
import Derived.BigQuiet
namespace Go.Proofs.YtkjoolmhcfajnaaDoor
open Go.RowKit

theorem quiet_left {P : Program} {f : FuncId} {args : Array Value} {w : World} {n : Nat} {v : Value}
    (h : Calls P f args (w.drewN n) fun e w' => e = .returned v ∧ w.drewN n = w') : Calls P f args (w.drewN n) fun e w'' => e = .returned v ∧ ∃ m, w'' = w.drewN m :=
  h.mono fun _ _ ⟨he, hm⟩ => ⟨he, n, hm.symm⟩

set_option maxHeartbeats 1000000 in
theorem inRange_any (op : Int) (w : World) :
    Calls Tryd.prog 34 #[.int .i64 op, .int .i64 0, .int .i64 2] w fun e w' => e = .returned (.bool (opB op)) ∧ w = w' := by
  have HV : Hid (opB op = (decide (0 ≤ op) && decide (op ≤ 2))) := rfl
  by_cases h : 0 ≤ op
  · go_enter Tryd.func34, Tryd.ntmps34
    go_wp2
    go_ret
    exact ⟨ret_bool (by rw [HV.out]; simp [h]), rfl⟩
  · go_enter Tryd.func34, Tryd.ntmps34
    go_wp2
    go_ret
    exact ⟨ret_bool (by rw [HV.out]; symm; rw [Bool.and_eq_false_iff, decide_eq_false_iff_not, decide_eq_false_iff_not]; omega), rfl⟩

set_option maxHeartbeats 1000000 in
theorem placeOf_any (e : Ent) (w : World) :
    Calls Tryd.prog 22 #[e.agg] w fun r w' => r = .returned (.agg #[.string e.s, .string e.k]) ∧ Grows w w' := by
  unfold Ent.agg
  go_enter Tryd.func22, Tryd.ntmps22
  go_wp2
  refine bodyPost_ret (v := .agg #[.string e.s, .string e.k]) (by simp [results, Tryd.results22, go_sem]) rfl ⟨rfl, ((Grows.refl _).alloc _).alloc _⟩

theorem vent_place {e : Ent} (h : vplace e.s e.k = false) : vent e = false := by unfold vent; rw [h]; rfl
theorem vent_op {e : Ent} (h : opB e.op = false) : vent e = false := by unfold vent; rw [h]; simp
theorem vent_value {e : Ent} (h : vvalue e.v = false) : vent e = false := by unfold vent; rw [h]; simp
theorem vent_drop {e : Ent} (h1 : e.op = 1) (h2 : ¬ e.v.toList = []) : vent e = false := by unfold vent; simp [h1, h2]
theorem vent_yes {e : Ent} (h1 : vplace e.s e.k = true) (h2 : opB e.op = true) (h3 : vvalue e.v = true) (h4 : e.op = 1 → e.v.toList = []) : vent e = true := by
  unfold vent
  rw [h1, h2, h3]
  by_cases h : e.op = 1
  · simp [h4 h]
  · simp [h]

set_option maxRecDepth 100000 in
set_option maxHeartbeats 2000000 in
theorem validEntry_any (e : Ent) (w : World) (hs : e.s.size ≤ 1048576) (hk : e.k.size ≤ 1048576) (hv : e.v.size ≤ 1048576) :
    Calls Tryd.prog 36 #[e.agg] w fun r w' => r = .returned (.bool (vent e)) ∧ Grows w w' := by
  have HP := Lib.hid (fun w => placeOf_any e w)
  have HQ := Lib.hid (fun w => implPlace_any e.s e.k w hs hk)
  have HR := Lib.hid (fun w => implValue_any e.v w (by unfold maxLen; omega))
  unfold Ent.agg at HP ⊢
  by_cases h1 : vplace e.s e.k = true
  · rw [h1] at HQ
    by_cases h3 : vvalue e.v = true
    · rw [h3] at HR
      have HY : Hid (opB e.op = true → (e.op = 1 → e.v.toList = []) → vent e = true) := fun h2 h4 => vent_yes h1 h2 h3 h4
      have HN := Lib.hid (fun (h : opB e.op = false) => vent_op h)
      have HD := Lib.hid (fun (h1 : e.op = 1) (h2 : ¬ e.v.toList = []) => vent_drop h1 h2)
      have HB : Hid (opB e.op = (decide (0 ≤ e.op) && decide (e.op ≤ 2))) := rfl
      obtain ⟨b, hb⟩ : ∃ b, vent e = b := ⟨_, rfl⟩
      rw [hb] at HY HN HD
      rw [hb]
      obtain ⟨s, k, op, v⟩ := e
      simp only [] at *
      clear hb h1 h3 hs hk hv
      go_enter Tryd.func36, Tryd.ntmps36
      go_wp2_with fail
      refine (HP.out _).mono ?_
      rintro e w1 ⟨rfl, g1⟩
      have G1 : Hid (Grows (w.alloc (.cells #[.string s, .string k, .int .i64 op, .string v] 33)) w1) := g1
      clear g1
      go_wp2_with fail
      refine (HQ.out _).mono ?_
      rintro e w2 ⟨rfl, g2⟩
      have G2 : Hid (Grows (w.alloc (.cells #[.string s, .string k, .int .i64 op, .string v] 33)) w2) := G1.out.trans g2
      have c3 : w2.cell? ⟨w.heap.size, 3, none⟩ = some (.string v) := (G2.out.cell (p := ⟨w.heap.size, 3, none⟩) (by simp)).trans (by simp)
      clear g2
      go_wp2_with fail
      refine (HR.out _).mono ?_
      rintro e w3 ⟨rfl, g3⟩
      have G3 : Hid (Grows (w.alloc (.cells #[.string s, .string k, .int .i64 op, .string v] 33)) w3) := G2.out.trans g3
      have d2 : w3.cell? ⟨w.heap.size, 2, none⟩ = some (.int .i64 op) := (G3.out.cell (p := ⟨w.heap.size, 2, none⟩) (by simp)).trans (by simp)
      have d3 : w3.cell? ⟨w.heap.size, 3, none⟩ = some (.string v) := (G3.out.cell (p := ⟨w.heap.size, 3, none⟩) (by simp)).trans (by simp)
      have HG : Hid (Grows w w3) := ((Grows.refl _).alloc _).trans G3.out
      clear g3 c3 G1 G2 G3
      by_cases q0 : op = 0
      · have HV : Hid (b = true) := (HY.out (by rw [HB.out]; simp [q0]) (fun h => by omega)).symm ▸ rfl
        subst q0
        go_wp2
        go_ret
        exact ⟨ret_bool HV.out.symm, HG.out⟩
      · by_cases q2 : op = 2
        · have HV : Hid (b = true) := (HY.out (by rw [HB.out]; simp [q2]) (fun h => by omega)).symm ▸ rfl
          subst q2
          go_wp2
          go_ret
          exact ⟨ret_bool HV.out.symm, HG.out⟩
        · by_cases q1 : op = 1
          · by_cases hl : v.toList = []
            · have hl2 : v.toList.isEmpty = true := by simp [hl]
              have HV : Hid (b = true) := (HY.out (by rw [HB.out]; simp [q1]) (fun h => hl)).symm ▸ rfl
              subst q1
              go_wp2
              go_ret
              exact ⟨ret_bool HV.out.symm, HG.out⟩
            · have hl2 : v.toList.isEmpty = false := by simp [hl]
              have HV : Hid (b = false) := (HD.out q1 hl)
              subst q1
              go_wp2
              go_ret
              exact ⟨ret_bool HV.out.symm, HG.out⟩
          · have HV : Hid (b = false) := HN.out (by rw [HB.out, Bool.and_eq_false_iff, decide_eq_false_iff_not, decide_eq_false_iff_not]; omega)
            have e0 : decide (op = 0) = false := by simp [q0]
            have e1 : decide (op = 1) = false := by simp [q1]
            have e2 : decide (op = 2) = false := by simp [q2]
            have f0 : (op == 0) = false := by simp [q0]
            have f1 : (op == 1) = false := by simp [q1]
            have f2 : (op == 2) = false := by simp [q2]
            go_wp2
            go_ret
            exact ⟨ret_bool HV.out.symm, HG.out⟩
    · have h3' : vvalue e.v = false := by simpa using h3
      have HV : Hid (vent e = false) := vent_value h3'
      rw [h3'] at HR
      obtain ⟨s, k, op, v⟩ := e
      simp only [] at *
      clear h1 h3 h3' hs hk hv
      go_enter Tryd.func36, Tryd.ntmps36
      go_wp2_with fail
      refine (HP.out _).mono ?_
      rintro e w1 ⟨rfl, g1⟩
      have G1 : Hid (Grows (w.alloc (.cells #[.string s, .string k, .int .i64 op, .string v] 33)) w1) := g1
      clear g1
      go_wp2_with fail
      refine (HQ.out _).mono ?_
      rintro e w2 ⟨rfl, g2⟩
      have G2 : Hid (Grows (w.alloc (.cells #[.string s, .string k, .int .i64 op, .string v] 33)) w2) := G1.out.trans g2
      have c3 : w2.cell? ⟨w.heap.size, 3, none⟩ = some (.string v) := (G2.out.cell (p := ⟨w.heap.size, 3, none⟩) (by simp)).trans (by simp)
      clear g2
      go_wp2_with fail
      refine (HR.out _).mono ?_
      rintro e w3 ⟨rfl, g3⟩
      go_wp2
      go_ret
      exact ⟨ret_bool HV.out.symm, ((Grows.refl _).alloc _).trans (G2.out.trans g3)⟩
  · have h1' : vplace e.s e.k = false := by simpa using h1
    have HV : Hid (vent e = false) := vent_place h1'
    rw [h1'] at HQ
    obtain ⟨s, k, op, v⟩ := e
    simp only [] at *
    clear h1 h1' hs hk hv
    go_enter Tryd.func36, Tryd.ntmps36
    go_wp2_with fail
    refine (HP.out _).mono ?_
    rintro e w1 ⟨rfl, g1⟩
    have G1 : Hid (Grows (w.alloc (.cells #[.string s, .string k, .int .i64 op, .string v] 33)) w1) := g1
    clear g1
    go_wp2_with fail
    refine (HQ.out _).mono ?_
    rintro e w2 ⟨rfl, g2⟩
    go_wp2
    go_ret
    exact ⟨ret_bool HV.out.symm, ((Grows.refl _).alloc _).trans (G1.out.trans g2)⟩
end Go.Proofs.YtkjoolmhcfajnaaDoor
