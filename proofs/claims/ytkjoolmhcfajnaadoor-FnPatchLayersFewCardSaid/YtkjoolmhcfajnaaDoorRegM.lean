/-
  A region that draws its order, whose last operations come in one forced order behind all others: its loads are taken first in every world that meets a condition S, what makes memory keeps S, and the forced end owes nothing to S. No program.
-/
import Derived.OrdersHeld
import Derived.StillTail
import Derived.StillTactics
import Derived.Deep.RegionHeld
import Derived.Below
namespace Go.Proofs.YtkjoolmhcfajnaaDoor
open Go

section
variable {P : Program} {md : Region.Mode} {ops : Array Oper} {Q : Exit → Act → World → Prop} {S : World → Prop} {n : Nat} {L : Array Bool → Act → World → Prop}

/-- f operations of the first n come up, in whatever order, each keeps S; then L -/
def wpAnyM (P : Program) (md : Region.Mode) (ops : Array Oper) (Q : Exit → Act → World → Prop) (S : World → Prop) (n : Nat) (L : Array Bool → Act → World → Prop) : Nat → Array Bool → Act → World → Prop
  | 0, listed, a, w => L listed a w
  | f + 1, listed, a, w => Region.ready md ops listed ≠ [] ∧
    ∀ i ∈ Region.ready md ops listed, i < n ∧ wpOp P ops Q i (fun a' w' => S w' ∧ wpAnyM P md ops Q S n L f (listed.setIfInBounds i true) a' w') a w

theorem wpAny_of_M {g : Nat} (hL : ∀ listed a w, L listed a w → wpAny P md ops Q g listed a w) :
    ∀ (f : Nat) (listed : Array Bool) (a : Act) (w : World), wpAnyM P md ops Q S n L f listed a w → wpAny P md ops Q (f + g) listed a w
  | 0, listed, a, w, h => by rw [Nat.zero_add]; exact hL _ _ _ h
  | f + 1, listed, a, w, h => by
    rw [show f + 1 + g = (f + g) + 1 from by omega]
    exact ⟨fun h0 => absurd h0 h.1, fun i hi => wpOp_mono (fun a' w' h' => wpAny_of_M hL f _ a' w' h'.2) (h.2 i hi).2⟩

/-- what yields its value in every world that meets S is taken first -/
theorem wpAnyM_first {i : Nat} {oi : Oper} {v : Value} (hi : ops[i]? = some oi) (hsel : ∀ (j : Nat) (o : Oper) cs b, ops[j]? = some o → o.op ≠ .select cs b)
    (hQ : ∀ c a w, Q (.panic c) (a.put oi.dst v) w → Q (.panic c) a w)
    (hs : Region.sinkB md ops n = true) (hc : Region.chainB md ops n = true) (hn : n < ops.size) (hin : i < n)
    (hdone : ∀ listed a w, L listed a w → ∀ j ∈ Region.ready md ops listed, n ≤ j) :
    ∀ (f : Nat) (listed : Array Bool) (a : Act) (w : World), HeadInv md ops n listed →
      (∀ j oj, ops[j]? = some oj → j ≠ i → listed.getD j true = false → (∀ e ∈ oj.after, Region.binds md e = true → e.on ≠ i) → oi.apart ops oj = true) →
      i ∈ Region.ready md ops listed → YieldsIf P ops S oi v a → S w →
      wpAnyM P md ops Q S n L f (listed.setIfInBounds i true) (a.put oi.dst v) w → wpAnyM P md ops Q S n L (f + 1) listed a w := by
  intro f
  induction f with
  | zero =>
    intro listed a w inv _ hr hy hS H
    refine ⟨fun h => (by rw [h] at hr; cases hr), fun j hj => ?_⟩
    by_cases hji : j = i
    · subst hji
      exact ⟨hin, hy.wpOp hi hS ⟨hS, H⟩⟩
    · exfalso
      have h1 := hdone _ _ _ H j (ready_mono hj hji)
      exact tail_waits hs hc hn inv (n - i) i rfl hin (mem_ready.1 hr).1 j h1 hj
  | succ f ih =>
    intro listed a w inv hfree hr hy hS H
    refine ⟨fun h => (by rw [h] at hr; cases hr), fun j hj => ?_⟩
    by_cases hji : j = i
    · subst hji
      exact ⟨hin, hy.wpOp hi hS ⟨hS, H⟩⟩
    · obtain ⟨hjn, h1⟩ := H.2 j (ready_mono hj hji)
      refine ⟨hjn, ?_⟩
      obtain ⟨hjun, oj, hoj, hall⟩ := mem_ready.1 hj
      have hnot : ∀ e ∈ oj.after, Region.binds md e = true → e.on ≠ i := fun e he hb heq => by
        have h2 := hall e he hb
        rw [heq, getD_both (mem_ready.1 hr).1] at h2
        cases h2
      have h2 := wpOp_putIf hoj (hfree j oj hoj hji hjun hnot) (fun cs b => hsel i oi cs b hi) (fun cs b => hsel j oj cs b hoj) hQ hy h1
      refine wpOp_mono (fun a' w' h3 => ⟨h3.2.1, ih (listed.setIfInBounds j true) a' w' (inv.set hj hjn) (fun k ok hk hki hun hno => ?_) (ready_mono hr (Ne.symm hji)) h3.1 h3.2.1 ?_⟩) h2
      · refine hfree k ok hk hki ?_ hno
        by_cases hjk : j = k
        · subst hjk; exact hjun
        · rw [getD_set_ne true hjk] at hun; exact hun
      · rw [Array.setIfInBounds_comm _ _ hji]
        exact h3.2.2

/-- the forced end -/
def Ltail (P : Program) (md : Region.Mode) (ops : Array Oper) (Q : Exit → Act → World → Prop) (n : Nat) (l : List Oper) (listed : Array Bool) (a : Act) (w : World) : Prop :=
  Region.seqB md ops l.length n listed = true ∧ wpList P ops Q l a w
theorem Ltail.done {l : List Oper} {listed : Array Bool} {a : Act} {w : World} (h : Ltail P md ops Q n l listed a w) : ∀ j ∈ Region.ready md ops listed, n ≤ j :=
  seqB_ready h.1

/-- what the moves of the walk ask of the region, once for all -/
structure RegB (md : Region.Mode) (ops : Array Oper) (n : Nat) : Prop where
  sel : Region.noSelect ops = true
  lt : n < ops.size
  sink : Region.sinkB md ops n = true
  chain : Region.chainB md ops n = true
theorem regB_of {md : Region.Mode} {ops : Array Oper} {n : Nat} (h : (Region.noSelect ops && decide (n < ops.size) && Region.sinkB md ops n && Region.chainB md ops n) = true) : RegB md ops n := by
  simp only [Bool.and_eq_true, decide_eq_true_eq] at h
  exact ⟨h.1.1.1, h.1.1.2, h.1.2, h.2⟩
/-- is closed under what each waits for, and none of the end is listed -/
def headB (md : Region.Mode) (ops : Array Oper) (n : Nat) (listed : Array Bool) : Bool :=
  decide (listed.size = ops.size) && ((List.range ops.size).all fun j => !listed.getD j false || ((ops[j]?).map (·.after.all fun e => !Region.binds md e || listed.getD e.on false)).getD true)
    && ((List.range ops.size).all fun t => decide (t < n) || !listed.getD t true)
theorem headB_inv {listed : Array Bool} (h : headB md ops n listed = true) : HeadInv md ops n listed := by
  simp only [headB, Bool.and_eq_true, decide_eq_true_eq, List.all_eq_true, List.mem_range] at h
  obtain ⟨⟨h1, h2⟩, h3⟩ := h
  refine ⟨h1, fun j oj hj hl e he hb => ?_, fun t ht ht' => ?_⟩
  · have hjs : j < ops.size := (Array.getElem?_eq_some_iff.1 hj).1
    have h4 := h2 j hjs
    rw [hl, hj] at h4
    simp only [Bool.not_true, Bool.false_or, Option.map_some, Option.getD_some] at h4
    have h5 := Array.all_eq_true_iff_forall_mem.1 h4 e he
    rw [hb] at h5
    simpa using h5
  · have h4 := h3 t ht'
    have h5 : ¬ t < n := by omega
    simpa [h5] using h4

/-- take number i first -/
theorem wpAnyM_take {i : Nat} {oi : Oper} {v : Value} {f : Nat} {l : List Oper} {listed : Array Bool} {a : Act} {w : World} (hB : RegB md ops n) (hi : ops[i]? = some oi)
    (hk : (headB md ops n listed && Region.free md ops listed i && (Region.ready md ops listed).contains i && decide (i < n)) = true)
    (hQ : ∀ c a w, Q (.panic c) (a.put oi.dst v) w → Q (.panic c) a w) (hw : Region.wanted oi (yielded ops a.tmps) = true) (hy : ∀ w, S w → (execOp a.eval oi).run P w = .ok (.value v) w) (hS : S w)
    (h : wpAnyM P md ops Q S n (Ltail P md ops Q n l) f (listed.setIfInBounds i true) (a.put oi.dst v) w) : wpAnyM P md ops Q S n (Ltail P md ops Q n l) (f + 1) listed a w := by
  simp only [Bool.and_eq_true, decide_eq_true_eq] at hk
  obtain ⟨⟨⟨h1, h2⟩, h3⟩, h4⟩ := hk
  exact wpAnyM_first hi (Region.noSelect_spec hB.sel) hQ hB.sink hB.chain hB.lt h4 (fun _ _ _ hL => hL.done) f listed a w (headB_inv h1) (Region.free_spec hi h2) (by simpa using h3) (.inl ⟨hw, hy⟩) hS h

theorem wpOp_of_list {i : Nat} {o : Oper} {a : Act} {w : World} {KK : Act → World → Prop} (ho : ops[i]? = some o) (hg : o.guard = none)
    (h : wpList P ops (fun e a' w' => match e with | .normal => KK a' w' | e => Q e a' w') [o] a w) : wpOp P ops Q i KK a w := by
  unfold wpOp
  have hw : Region.wanted o (yielded ops a.tmps) = true := by simp [Region.wanted, hg]
  unfold wpList at h
  rw [hw, if_pos rfl] at h
  simp only [ho, hw, if_true]
  refine h.imp (fun h => ?_) (fun h => h)
  unfold Oper.wp at h ⊢
  generalize (execOp a.eval o).run P w = r at h ⊢
  cases r with
  | ok x w' =>
    cases x <;> simp only [Oper.upon] at h ⊢
    all_goals first | exact h | exact Calls.mono h (fun e w'' he => by cases e <;> exact he) | exact Rows.mono h (fun e w'' he => he)
  | halt x w' =>
    cases x <;> simp only [Oper.upon] at h ⊢
    all_goals first | exact h | skip
/-- the one that can come up -/
theorem wpAnyM_one {i : Nat} {o : Oper} {f : Nat} {l : List Oper} {listed : Array Bool} {a : Act} {w : World} (ho : ops[i]? = some o) (hr : (decide (Region.ready md ops listed = [i]) && decide (i < n)) = true) (hg : o.guard = none)
    (h : wpList P ops (fun e a' w' => match e with | .normal => S w' ∧ wpAnyM P md ops Q S n (Ltail P md ops Q n l) f (listed.setIfInBounds i true) a' w' | e => Q e a' w') [o] a w) :
    wpAnyM P md ops Q S n (Ltail P md ops Q n l) (f + 1) listed a w := by
  simp only [Bool.and_eq_true, decide_eq_true_eq] at hr
  refine ⟨by rw [hr.1]; simp, fun j hj => ?_⟩
  rw [hr.1] at hj
  have hji : j = i := by simpa using hj
  subst hji
  exact ⟨hr.2, wpOp_of_list ho hg h⟩
/-- one of the two that can come up -/
theorem wpAnyM_two {i j : Nat} {oi oj : Oper} {f : Nat} {l : List Oper} {listed : Array Bool} {a : Act} {w : World} (hi : ops[i]? = some oi) (hj : ops[j]? = some oj)
    (hr : (decide (Region.ready md ops listed = [i, j]) && decide (i < n) && decide (j < n)) = true) (hgi : oi.guard = none) (hgj : oj.guard = none)
    (h1 : wpList P ops (fun e a' w' => match e with | .normal => S w' ∧ wpAnyM P md ops Q S n (Ltail P md ops Q n l) f (listed.setIfInBounds i true) a' w' | e => Q e a' w') [oi] a w)
    (h2 : wpList P ops (fun e a' w' => match e with | .normal => S w' ∧ wpAnyM P md ops Q S n (Ltail P md ops Q n l) f (listed.setIfInBounds j true) a' w' | e => Q e a' w') [oj] a w) :
    wpAnyM P md ops Q S n (Ltail P md ops Q n l) (f + 1) listed a w := by
  simp only [Bool.and_eq_true, decide_eq_true_eq] at hr
  refine ⟨by rw [hr.1.1]; simp, fun q hq => ?_⟩
  rw [hr.1.1] at hq
  have hqq : q = i ∨ q = j := by simpa using hq
  rcases hqq with rfl | rfl
  · exact ⟨hr.1.2, wpOp_of_list hi hgi h1⟩
  · exact ⟨hr.2, wpOp_of_list hj hgj h2⟩

/-- behind the head: the forced end, as a list -/
theorem wpAnyM_tail {l : List Oper} {listed : Array Bool} {a : Act} {w : World} (hr : Region.seqB md ops l.length n listed = true) (h : wpList P ops Q l a w) : wpAnyM P md ops Q S n (Ltail P md ops Q n l) 0 listed a w := ⟨hr, h⟩

/-- the beginning: the head's first n operations, l is the forced end -/
theorem wp_region_M {id : Nat} {a : Act} {w : World} {l : List Oper} (n : Nat) (S : World → Prop) (hm : P.follows .mixedOrders = true)
    (hB : (Region.noSelect l.toArray && decide (n < l.toArray.size) && Region.sinkB .any l.toArray n && Region.chainB .any l.toArray n) = true) (hS : S w.drew)
    (h : RegB .any l.toArray n → S w.drew → wpAnyM P .any l.toArray Q S n (Ltail P .any l.toArray Q n (l.drop n)) n (Array.replicate l.length false) a w.drew) : (Code.region id l.toArray true).wp P Q a w := by
  have hb := regB_of hB
  refine wp_region_any hm ?_
  have h1 := wpAny_of_M (g := l.toArray.size - n) (Q := Q) (fun listed a' w' hL => by
    have h2 := wpAny_of_seq (md := .any) (Q' := Q) (l.drop n) n listed a' w' (fun j => by simp [List.getElem?_drop]) hL.1 hL.2
    rwa [show (l.drop n).length = l.toArray.size - n from by simp] at h2) n _ _ _ (h hb hS)
  have hlt := hb.lt
  rw [show n + (l.toArray.size - n) = l.toArray.size from by omega] at h1
  exact h1
end

/-- these cells hold these values -/
def CellsAre : List (Addr × Value) → World → Prop
  | [], _ => True
  | p :: L, w => w.cell? p.1 = some p.2 ∧ CellsAre L w
theorem CellsAre.keep {L : List (Addr × Value)} : ∀ {w w' : World}, CellsAre L w → RowKit.Below w.heap.size w w' → CellsAre L w' := by
  induction L with
  | nil => intro w w' _ _; exact trivial
  | cons p L ih => intro w w' h g; exact ⟨(g.cell (World.block_lt_of_cell? w p.1 h.1)).trans h.1, ih h.2 g⟩
theorem CellsAre.drew {L : List (Addr × Value)} : ∀ {w : World}, CellsAre L w → CellsAre L w.drew := by
  induction L with
  | nil => intro w _; exact trivial
  | cons p L ih => intro w h; exact ⟨h.1, ih h.2⟩
end Go.Proofs.YtkjoolmhcfajnaaDoor
