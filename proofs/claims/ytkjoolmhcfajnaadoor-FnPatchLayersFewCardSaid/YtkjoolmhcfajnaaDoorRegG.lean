/-
  A region that draws its order and has guards: what is not wanted is skipped, what is wanted goes as without a guard. No program.
-/
import Derived.Test.YtkjoolmhcfajnaaDoorRegM
namespace Go.Proofs.YtkjoolmhcfajnaaDoor
open Go

section
variable {P : Program} {md : Region.Mode} {ops : Array Oper} {Q : Exit → Act → World → Prop} {S : World → Prop} {n : Nat}
/-- skip number i: its guard says so -/
theorem wpAnyM_skip {i : Nat} {oi : Oper} {f : Nat} {l : List Oper} {listed : Array Bool} {a : Act} {w : World} (hB : RegB md ops n) (hi : ops[i]? = some oi)
    (hk : (headB md ops n listed && Region.free md ops listed i && (Region.ready md ops listed).contains i && decide (i < n)) = true)
    (hQ : ∀ c a w, Q (.panic c) (a.put oi.dst undef) w → Q (.panic c) a w) (hw : Region.wanted oi (yielded ops a.tmps) = false) (hS : S w)
    (h : wpAnyM P md ops Q S n (Ltail P md ops Q n l) f (listed.setIfInBounds i true) (a.put oi.dst undef) w) : wpAnyM P md ops Q S n (Ltail P md ops Q n l) (f + 1) listed a w := by
  simp only [Bool.and_eq_true, decide_eq_true_eq] at hk
  obtain ⟨⟨⟨h1, h2⟩, h3⟩, h4⟩ := hk
  exact wpAnyM_first (v := undef) hi (Region.noSelect_spec hB.sel) hQ hB.sink hB.chain hB.lt h4 (fun _ _ _ hL => hL.done) f listed a w (headB_inv h1) (Region.free_spec hi h2) (by simpa using h3) (.inr ⟨hw, rfl⟩) hS h
theorem wpOp_of_listW {i : Nat} {o : Oper} {a : Act} {w : World} {KK : Act → World → Prop} (ho : ops[i]? = some o) (hw : Region.wanted o (yielded ops a.tmps) = true)
    (h : wpList P ops (fun e a' w' => match e with | .normal => KK a' w' | e => Q e a' w') [o] a w) : wpOp P ops Q i KK a w := by
  unfold wpOp
  unfold wpList at h
  rw [hw, if_pos rfl] at h
  simp only [ho, hw, if_true]
  refine h.imp (fun h => ?_) (fun h => h)
  unfold Oper.wp at h ⊢
  generalize (execOp a.eval o).run P w = r at h ⊢
  cases r with
  | ok x w' =>
    cases x <;> simp only [Oper.upon] at h ⊢
    all_goals first | exact h | exact Calls.mono h (fun e w'' he => by cases e <;> exact he) | exact Rows.mono h (fun e w'' he => he)
  | halt x w' =>
    cases x <;> simp only [Oper.upon] at h ⊢
    all_goals first | exact h | skip
/-- the one that can come up, its guard says yes -/
theorem wpAnyM_oneW {i : Nat} {o : Oper} {f : Nat} {l : List Oper} {listed : Array Bool} {a : Act} {w : World} (ho : ops[i]? = some o) (hr : (decide (Region.ready md ops listed = [i]) && decide (i < n)) = true) (hw : Region.wanted o (yielded ops a.tmps) = true)
    (h : wpList P ops (fun e a' w' => match e with | .normal => S w' ∧ wpAnyM P md ops Q S n (Ltail P md ops Q n l) f (listed.setIfInBounds i true) a' w' | e => Q e a' w') [o] a w) :
    wpAnyM P md ops Q S n (Ltail P md ops Q n l) (f + 1) listed a w := by
  simp only [Bool.and_eq_true, decide_eq_true_eq] at hr
  refine ⟨by rw [hr.1]; simp, fun j hj => ?_⟩
  rw [hr.1] at hj
  have hji : j = i := by simpa using hj
  subst hji
  exact ⟨hr.2, wpOp_of_listW ho hw h⟩
end
end Go.Proofs.YtkjoolmhcfajnaaDoor
