/-
  The comparison of two lists of entries, sameEntries of the specification. Condition: at most 1048576 entries.
-/
import Derived.Test.YteifcogfnpeahaaEnt
import Derived.Deep.RegionHeld3
namespace Go.Proofs.Yteifcogfnpeahaa
open Go.RowKit

/-- two entries are the same in every part -/
def Ent.same (a b : Ent) : Bool := (a.s.toList == b.s.toList) && ((a.k.toList == b.k.toList) && ((a.op == b.op) && (a.v.toList == b.v.toList)))
theorem eqEnt (a b : Ent) (w : World) : (binOp .eql 102 a.agg b.agg).run Try.prog w = .ok (.bool (a.same b)) w := by
  unfold Ent.agg
  go_simp
  unfold Ent.same
  repeat' split
  all_goals simp_all
theorem neEnt (a b : Ent) (w : World) : (binOp .neq 102 a.agg b.agg).run Try.prog w = .ok (.bool (!a.same b)) w := by
  unfold Ent.agg
  go_simp
  unfold Ent.same
  repeat' split
  all_goals simp_all
theorem entFrom_cases (s k : ByteArray) : ∀ (es : List Ent) (i : Nat), entFrom s k es i = -1 ∨ ∃ q, i ≤ q ∧ q < i + es.length ∧ entFrom s k es i = (q : Int) := by
  intro es
  induction es with
  | nil => intro i; exact .inl rfl
  | cons e es ih =>
    intro i
    rw [entFrom]
    split
    · exact .inr ⟨i, Nat.le_refl _, by simp, rfl⟩
    · rcases ih (i + 1) with h | ⟨q, h1, h2, h3⟩
      · exact .inl h
      · exact .inr ⟨q, by omega, by simp; omega, h3⟩
theorem entIdx_cases (es : List Ent) (s k : ByteArray) : entIdx es s k = -1 ∨ ∃ q, q < es.length ∧ entIdx es s k = (q : Int) := by
  rcases entFrom_cases s k es 0 with h | ⟨q, _, h2, h3⟩
  · exact .inl h
  · exact .inr ⟨q, by omega, h3⟩
/-- the entry is in the list, the same in every part, and the first of its key -/
def inE (bs : List Ent) (e : Ent) : Bool := match bs[(entIdx bs e.s e.k).toNat]? with
  | some x => decide (0 ≤ entIdx bs e.s e.k) && x.same e
  | none => false
def sameE (fs bs : List Ent) : Bool := decide (fs.length = bs.length) && fs.all (inE bs)
def AllE (fs bs : List Ent) (j : Nat) : Prop := ∀ i (h : i < fs.length), i < j → inE bs fs[i] = true
theorem AllE.zero (fs bs : List Ent) : AllE fs bs 0 := fun _ _ h => absurd h (Nat.not_lt_zero _)
theorem AllE.succ {fs bs : List Ent} {j : Nat} (h : AllE fs bs j) (hj : j < fs.length) (hl : inE bs fs[j] = true) : AllE fs bs (j + 1) := by
  intro i hi hij
  by_cases e : i = j
  · subst e; exact hl
  · exact h i hi (by omega)
theorem sameE_yes {fs bs : List Ent} (hl : fs.length = bs.length) (h : AllE fs bs fs.length) : sameE fs bs = true := by
  unfold sameE
  rw [decide_eq_true hl, Bool.true_and, List.all_eq_true]
  intro e he
  obtain ⟨j, hj, rfl⟩ := List.getElem_of_mem he
  exact h j hj hj
theorem sameE_no {fs bs : List Ent} {j : Nat} (hj : j < fs.length) (h : inE bs fs[j] = false) : sameE fs bs = false := by
  have : fs.all (inE bs) = false := by
    rw [← Bool.not_eq_true, List.all_eq_true]
    intro hall
    rw [hall _ (List.getElem_mem hj)] at h
    cases h
  unfold sameE; rw [this, Bool.and_false]

set_option maxRecDepth 100000 in
set_option maxHeartbeats 2000000 in
theorem sameEntries_any (A B : Option Addr) (c d : Nat) (fs bs : List Ent) (w : World) (hn : fs.length ≤ 1048576) (hm : bs.length ≤ 1048576) (hA : EntsAt w A fs) (hB : EntsAt w B bs) :
    Calls Try.prog 90 #[.slice A fs.length c, .slice B bs.length d] w fun e w' => e = .returned (.bool (sameE fs bs)) ∧ Grows w w' := by
  by_cases hl : fs.length = bs.length
  · have HF := Lib.hid (fun s k w1 (g : Grows w w1) => entryAt_any B d bs s k w1 hm (hB.keep g))
    have HA := Lib.hid hA
    have HB := Lib.hid hB
    clear hA hB
    have HL := Lib.hid hl
    obtain ⟨n, hnn⟩ : ∃ n, fs.length = n := ⟨_, rfl⟩
    have hmm : bs.length = n := hl.symm.trans hnn
    rw [hmm] at HF hm ⊢
    rw [hnn] at hn ⊢
    have HN := Lib.hid hnn
    have HM := Lib.hid hmm
    clear hnn hmm hl
    go_enter Try.func90, Try.ntmps90
    go_wp2
    go_loopw [5] (fun i wr => ∃ k : Nat, k ≤ n ∧ i = .int .i64 k ∧ Hid (AllE fs bs k) ∧ Hid (Grows w wr)) (fun i _ => n - (intOf i).toNat)
    case atStart => exact ⟨0, Nat.zero_le _, rfl, AllE.zero _ _, Grows.refl _⟩
    case round =>
      obtain ⟨k, hk, rfl, HY, HG⟩ := hrel
      by_cases hlt : k < n
      · have hk2 : k < fs.length := by rw [HN.out]; exact hlt
        obtain ⟨b, o, rfl, hb, hc⟩ := HA.out (by omega)
        obtain ⟨x, hx⟩ : ∃ x, fs[k] = x := ⟨_, rfl⟩
        have hat := (hc k hk2).keep hb HG.out
        rw [hx] at hat
        obtain ⟨c0, c1, c2, c3⟩ := hat
        have HX := Lib.hid hx
        clear hx hc
        have HS := Lib.hid (fun w1 (g : Grows w w1) => HF.out x.s x.k w1 g)
        rcases entIdx_cases bs x.s x.k with h0 | ⟨q, hq, h0⟩
        · have HV : Hid (sameE fs bs = false) := sameE_no hk2 (by rw [HX.out]; unfold inE; rw [h0]; split <;> rfl)
          rw [h0] at HS
          clear h0
          go_wp2_with fail
          go_region_held3 (fun w' => w'.cell? ⟨b, o + k * 4, none⟩ = some (.string x.s) ∧ w'.cell? ⟨b, o + k * 4 + 1, none⟩ = some (.string x.k)) (go_keep) (first | (go_at_call 107; refine (HS.out _ HG.out.drew).mono ?_; rintro e w1 ⟨rfl, rfl⟩))
          go_wp2_with fail
          go_quiet (fail)
          go_wp2
          go_ret
          exact ⟨ret_bool HV.out.symm, (by first | exact HG.out | (show Grows _ _; repeat (first | exact HG.out | refine Grows.drew ?_ | refine Grows.drewN ?_ _)))⟩
        · obtain ⟨b2, o2, rfl, hb2, hc2⟩ := HB.out (by omega)
          obtain ⟨y, hy⟩ : ∃ y, bs[q] = y := ⟨_, rfl⟩
          have hat2 := (hc2 q hq).keep hb2 HG.out
          rw [hy] at hat2
          obtain ⟨d0, d1, d2, d3⟩ := hat2
          have HI : Hid (inE bs x = y.same x) := by
            unfold Hid inE
            rw [h0, Int.toNat_natCast, List.getElem?_eq_getElem hq, hy]
            simp
          rw [h0] at HS
          have hqn : q < n := by rw [← HM.out]; exact hq
          have hne := fun w => neEnt y x w
          unfold Ent.agg at hne
          clear h0 hc2 hy
          by_cases hs : y.same x = true
          · have HV : Hid (AllE fs bs (k + 1)) := HY.out.succ hk2 (by rw [HX.out, HI.out]; exact hs)
            rw [hs] at hne
            clear hs
            go_wp2_with fail
            go_region_held3 (fun w' => w'.cell? ⟨b, o + k * 4, none⟩ = some (.string x.s) ∧ w'.cell? ⟨b, o + k * 4 + 1, none⟩ = some (.string x.k)) (go_keep) (first | (go_at_call 107; refine (HS.out _ HG.out.drew).mono ?_; rintro e w1 ⟨rfl, rfl⟩))
            go_wp2_with fail
            go_quiet (fail)
            go_wp2
            go_roundw
            case rel => exact ⟨k + 1, by omega, by go_num, HV.out, (by first | exact HG.out | (show Grows _ _; repeat (first | exact HG.out | refine Grows.drew ?_ | refine Grows.drewN ?_ _)))⟩
            case measure => simp [intOf]; omega
          · have hs' : y.same x = false := by simpa using hs
            have HV : Hid (sameE fs bs = false) := sameE_no hk2 (by rw [HX.out, HI.out]; exact hs')
            rw [hs'] at hne
            clear hs hs'
            go_wp2_with fail
            go_region_held3 (fun w' => w'.cell? ⟨b, o + k * 4, none⟩ = some (.string x.s) ∧ w'.cell? ⟨b, o + k * 4 + 1, none⟩ = some (.string x.k)) (go_keep) (first | (go_at_call 107; refine (HS.out _ HG.out.drew).mono ?_; rintro e w1 ⟨rfl, rfl⟩))
            go_wp2_with fail
            go_quiet (fail)
            go_wp2
            go_ret
            exact ⟨ret_bool HV.out.symm, (by first | exact HG.out | (show Grows _ _; repeat (first | exact HG.out | refine Grows.drew ?_ | refine Grows.drewN ?_ _)))⟩
      · obtain rfl : k = n := by omega
        have HV : Hid (sameE fs bs = true) := sameE_yes HL.out (by rw [HN.out]; exact HY.out)
        go_wp2
        go_ret
        exact ⟨ret_bool HV.out.symm, HG.out⟩
  · have HV : Hid (sameE fs bs = false) := by unfold Hid sameE; rw [decide_eq_false hl]; rfl
    obtain ⟨n, hnn⟩ : ∃ n, fs.length = n := ⟨_, rfl⟩
    obtain ⟨m, hmm⟩ : ∃ n, bs.length = n := ⟨_, rfl⟩
    rw [hmm] at hl ⊢
    rw [hnn] at hl ⊢
    clear hA hB
    go_enter Try.func90, Try.ntmps90
    go_wp2
    go_ret
    exact ⟨ret_bool HV.out.symm, Grows.refl _⟩
end Go.Proofs.Yteifcogfnpeahaa
