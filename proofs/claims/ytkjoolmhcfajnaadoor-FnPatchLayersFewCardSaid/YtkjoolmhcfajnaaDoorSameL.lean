/-
  Whether two layers have the same entries: SameLayers of both sides. Conditions: parts of at most 1048576 bytes.
-/
import Derived.Test.YtkjoolmhcfajnaaDoorComS
import Derived.Test.YtkjoolmhcfajnaaDoorRegM
namespace Go.Proofs.YtkjoolmhcfajnaaDoor
open Go.RowKit

section
variable {P : Program} {md : Region.Mode} {ops : Array Oper} {Q : Exit → Act → World → Prop} {S : World → Prop} {n : Nat}
/-- take number i, whose guard is not met -/
theorem wpAnyM_skip {i : Nat} {oi : Oper} {f : Nat} {l : List Oper} {listed : Array Bool} {a : Act} {w : World} (hB : RegB md ops n) (hi : ops[i]? = some oi)
    (hk : (headB md ops n listed && Region.free md ops listed i && (Region.ready md ops listed).contains i && decide (i < n)) = true)
    (hQ : ∀ c a w, Q (.panic c) (a.put oi.dst undef) w → Q (.panic c) a w) (hw : Region.wanted oi (yielded ops a.tmps) = false) (hS : S w)
    (h : wpAnyM P md ops Q S n (Ltail P md ops Q n l) f (listed.setIfInBounds i true) (a.put oi.dst undef) w) : wpAnyM P md ops Q S n (Ltail P md ops Q n l) (f + 1) listed a w := by
  simp only [Bool.and_eq_true, decide_eq_true_eq] at hk
  obtain ⟨⟨⟨h1, h2⟩, h3⟩, h4⟩ := hk
  exact wpAnyM_first hi (Region.noSelect_spec hB.sel) hQ hB.sink hB.chain hB.lt h4 (fun _ _ _ hL => hL.done) f listed a w (headB_inv h1) (Region.free_spec hi h2) (by simpa using h3) (.inr ⟨hw, rfl⟩) hS h
theorem wpOp_of_listG {i : Nat} {o : Oper} {a : Act} {w : World} {KK : Act → World → Prop} (ho : ops[i]? = some o) (hw : Region.wanted o (yielded ops a.tmps) = true)
    (h : wpList P ops (fun e a' w' => match e with | .normal => KK a' w' | e => Q e a' w') [o] a w) : wpOp P ops Q i KK a w := by
  unfold wpOp
  unfold wpList at h
  rw [hw, if_pos rfl] at h
  simp only [ho, hw, if_true]
  refine h.imp (fun h => ?_) (fun h => h)
  unfold Oper.wp at h ⊢
  generalize (execOp a.eval o).run P w = r at h ⊢
  cases r with
  | ok x w' =>
    cases x <;> simp only [Oper.upon] at h ⊢
    all_goals first | exact h | exact Calls.mono h (fun e w'' he => by cases e <;> exact he) | exact Rows.mono h (fun e w'' he => he)
  | halt x w' =>
    cases x <;> simp only [Oper.upon] at h ⊢
    all_goals first | exact h | skip
/-- the one that can come up, its guard met -/
theorem wpAnyM_oneG {i : Nat} {o : Oper} {f : Nat} {l : List Oper} {listed : Array Bool} {a : Act} {w : World} (ho : ops[i]? = some o) (hr : (decide (Region.ready md ops listed = [i]) && decide (i < n)) = true) (hw : Region.wanted o (yielded ops a.tmps) = true)
    (h : wpList P ops (fun e a' w' => match e with | .normal => S w' ∧ wpAnyM P md ops Q S n (Ltail P md ops Q n l) f (listed.setIfInBounds i true) a' w' | e => Q e a' w') [o] a w) :
    wpAnyM P md ops Q S n (Ltail P md ops Q n l) (f + 1) listed a w := by
  simp only [Bool.and_eq_true, decide_eq_true_eq] at hr
  refine ⟨by rw [hr.1]; simp, fun j hj => ?_⟩
  rw [hr.1] at hj
  have hji : j = i := by simpa using hj
  subst hji
  exact ⟨hr.2, wpOp_of_listG ho hw h⟩
end

/-- the two layers have the same entries -/
def sameL (xs bs : List Ent) : Bool := vlayer xs && (vlayer bs && sameE xs bs)
theorem sameL_com {xs bs : List Ent} (h1 : vlayer xs = true) (h2 : vlayer bs = true) (hl : xs.length = bs.length) : (sameL xs bs = true ↔ (comE xs bs).length = xs.length) := by
  unfold sameL sameE
  rw [h1, h2, comE_yes h1 h2, decide_eq_true hl, List.length_filter_eq_length_iff]
  simp
theorem sameL_len {xs bs : List Ent} (hl : xs.length ≠ bs.length) : sameL xs bs = false := by unfold sameL sameE; rw [decide_eq_false hl]; simp

set_option maxRecDepth 100000 in
set_option maxHeartbeats 8000000 in
theorem implSame_any (A : Option Addr) (c : Nat) (es : List Ent) (B : Option Addr) (d : Nat) (bs : List Ent) (w : World) (hf : EFit es) (hA : EntsAt w A es) (hg : EFit bs) (hB : EntsAt w B bs) :
    Calls Tryd.prog 10 #[.agg #[.slice A es.length c], .agg #[.slice B bs.length d]] w fun e w' => e = .returned (.bool (sameL es bs)) ∧ Grows w w' := by
  have HI := Lib.hid (fun w1 (g : Grows w w1) => implLayer_any A c es w1 hf (hA.keep g))
  have HJ := Lib.hid (fun w1 (g : Grows w w1) => implLayer_any B d bs w1 hg (hB.keep g))
  have HC := Lib.hid (fun w1 (g : Grows w w1) => implCom_any A c es B d bs w1 hf (hA.keep g) hg (hB.keep g))
  have HV : Hid (sameL es bs = (vlayer es && (vlayer bs && sameE es bs))) := rfl
  have hn := hf.1
  have hm := hg.1
  clear hA hB hf hg
  unfold ResE at HC
  have k0 : ((w.alloc (lbox A es.length c)).alloc (lbox B bs.length d)).cell? ⟨w.heap.size, 0, none⟩ = some (.slice A es.length c) := (((Grows.refl _).alloc _).cell (p := ⟨w.heap.size, 0, none⟩) (by simp)).trans (by simp [lbox])
  have k1 : ((w.alloc (lbox A es.length c)).alloc (lbox B bs.length d)).cell? ⟨w.heap.size + 1, 0, none⟩ = some (.slice B bs.length d) := by simp [lbox]
  have HGB : Hid (Grows w ((w.alloc (lbox A es.length c)).alloc (lbox B bs.length d)).drew) := (((Grows.refl _).alloc _).alloc _).drew
  by_cases hv : vlayer es = true
  · rw [hv] at HI
    by_cases hu : vlayer bs = true
    · rw [hu] at HJ
      by_cases hl : es.length = bs.length
      · have HL := Lib.hid (sameL_com hv hu hl)
        have hcl := comE_le es bs
        clear hv hu HV
        obtain ⟨n, hnn⟩ : ∃ n, es.length = n := ⟨_, rfl⟩
        have hmm : bs.length = n := hl.symm.trans hnn
        rw [hnn] at HI HC HL hcl k0 k1 HGB hn ⊢
        rw [hmm] at HJ HC k0 k1 HGB hm ⊢
        clear hnn hmm hl
        go_enter Tryd.func10, Tryd.ntmps10
        go_wp2_with fail
        refine wp_region_M 26 (CellsAre [(⟨w.heap.size, 0, none⟩, .slice A n c), (⟨w.heap.size + 1, 0, none⟩, .slice B n d)]) (by kernel_rfl) (by kernel_rfl) ⟨k0, k1, trivial⟩ (fun hB hS => ?_)
        clear k0 k1
        have HG0 : Hid (Grows w _) := HGB.out
        clear HGB
        refine wpAnyM_take (i := 0) (v := ?vw30) hB rfl (by kernel_rfl) (fun _ _ _ h => h) (by kernel_rfl) ?yw30 hS ?nw30
        case yw30 => (intro w9 hSw; obtain ⟨s1, s2, _⟩ := hSw; go_simp; try with_reducible rfl)
        refine wpAnyM_one (i := 1) rfl (by kernel_rfl) rfl ?_
        have HS1 := Lib.hid hS
        clear hS
        go_wp2_with fail
        refine (HI.out _ HG0.out).mono ?_
        rintro e y1 ⟨rfl, g1⟩
        have HG1 : Hid (Grows w y1) := HG0.out.trans g1
        have HT1 := Lib.hid (CellsAre.keep HS1.out g1)
        clear g1 HS1 HG0
        go_wp2_with fail
        refine ⟨HT1.out, ?_⟩
        have hS := HT1.out
        clear HT1
        refine wpAnyM_take (i := 2) (v := ?vw32) hB rfl (by kernel_rfl) (fun _ _ _ h => h) (by kernel_rfl) ?yw32 hS ?nw32
        case yw32 => (intro w9 hSw; obtain ⟨s1, s2, _⟩ := hSw; go_simp; try with_reducible rfl)
        refine wpAnyM_take (i := 3) (v := ?vw33) hB rfl (by kernel_rfl) (fun _ _ _ h => h) (by kernel_rfl) ?yw33 hS ?nw33
        case yw33 => (intro w9 hSw; obtain ⟨s1, s2, _⟩ := hSw; go_simp; try with_reducible rfl)
        refine wpAnyM_oneG (i := 4) rfl (by kernel_rfl) (by kernel_rfl) ?_
        have HS4 := Lib.hid hS
        clear hS
        go_wp2_with fail
        refine (HJ.out _ HG1.out).mono ?_
        rintro e y2 ⟨rfl, g2⟩
        have HG2 : Hid (Grows w y2) := HG1.out.trans g2
        have HT4 := Lib.hid (CellsAre.keep HS4.out g2)
        clear g2 HS4 HG1
        go_wp2_with fail
        refine ⟨HT4.out, ?_⟩
        have hS := HT4.out
        clear HT4
        refine wpAnyM_take (i := 5) (v := ?vw35) hB rfl (by kernel_rfl) (fun _ _ _ h => h) (by kernel_rfl) ?yw35 hS ?nw35
        case yw35 => (intro w9 hSw; obtain ⟨s1, s2, _⟩ := hSw; go_simp; try with_reducible rfl)
        refine wpAnyM_take (i := 6) (v := ?vw36) hB rfl (by kernel_rfl) (fun _ _ _ h => h) (by kernel_rfl) ?yw36 hS ?nw36
        case yw36 => (intro w9 hSw; obtain ⟨s1, s2, _⟩ := hSw; go_simp; try with_reducible rfl)
        refine wpAnyM_take (i := 7) (v := ?vw37) hB rfl (by kernel_rfl) (fun _ _ _ h => h) (by kernel_rfl) ?yw37 hS ?nw37
        case yw37 => (intro w9 hSw; obtain ⟨s1, s2, _⟩ := hSw; go_simp; try with_reducible rfl)
        refine wpAnyM_take (i := 8) (v := ?vw38) hB rfl (by kernel_rfl) (fun _ _ _ h => h) (by kernel_rfl) ?yw38 hS ?nw38
        case yw38 => (intro w9 hSw; obtain ⟨s1, s2, _⟩ := hSw; go_simp; try with_reducible rfl)
        refine wpAnyM_take (i := 9) (v := ?vw39) hB rfl (by kernel_rfl) (fun _ _ _ h => h) (by kernel_rfl) ?yw39 hS ?nw39
        case yw39 => (intro w9 hSw; obtain ⟨s1, s2, _⟩ := hSw; go_simp; try with_reducible rfl)
        refine wpAnyM_take (i := 10) (v := ?vw310) hB rfl (by kernel_rfl) (fun _ _ _ h => h) (by kernel_rfl) ?yw310 hS ?nw310
        case yw310 => (intro w9 hSw; obtain ⟨s1, s2, _⟩ := hSw; go_simp; try with_reducible rfl)
        refine wpAnyM_take (i := 11) (v := ?vw311) hB rfl (by kernel_rfl) (fun _ _ _ h => h) (by kernel_rfl) ?yw311 hS ?nw311
        case yw311 => (intro w9 hSw; obtain ⟨s1, s2, _⟩ := hSw; go_simp; try with_reducible rfl)
        refine wpAnyM_take (i := 12) (v := ?vw312) hB rfl (by kernel_rfl) (fun _ _ _ h => h) (by kernel_rfl) ?yw312 hS ?nw312
        case yw312 => (intro w9 hSw; obtain ⟨s1, s2, _⟩ := hSw; go_simp; try with_reducible rfl)
        refine wpAnyM_take (i := 13) (v := .bool true) hB rfl (by kernel_rfl) (fun _ _ _ h => h) (by kernel_rfl) ?yw313 hS ?nw313
        case yw313 => (intro w9 _; go_simp; first | done | simp)
        refine wpAnyM_take (i := 14) (v := ?vw314) hB rfl (by kernel_rfl) (fun _ _ _ h => h) (by kernel_rfl) ?yw314 hS ?nw314
        case yw314 => (intro w9 hSw; obtain ⟨s1, s2, _⟩ := hSw; go_simp; try with_reducible rfl)
        refine wpAnyM_take (i := 15) (v := ?vw315) hB rfl (by kernel_rfl) (fun _ _ _ h => h) (by kernel_rfl) ?yw315 hS ?nw315
        case yw315 => (intro w9 hSw; obtain ⟨s1, s2, _⟩ := hSw; go_simp; try with_reducible rfl)
        refine wpAnyM_take (i := 16) (v := ?vw316) hB rfl (by kernel_rfl) (fun _ _ _ h => h) (by kernel_rfl) ?yw316 hS ?nw316
        case yw316 => (intro w9 hSw; obtain ⟨s1, s2, _⟩ := hSw; go_simp; try with_reducible rfl)
        refine wpAnyM_take (i := 17) (v := ?vw317) hB rfl (by kernel_rfl) (fun _ _ _ h => h) (by kernel_rfl) ?yw317 hS ?nw317
        case yw317 => (intro w9 hSw; obtain ⟨s1, s2, _⟩ := hSw; go_simp; try with_reducible rfl)
        refine wpAnyM_take (i := 21) (v := ?vw321) hB rfl (by kernel_rfl) (fun _ _ _ h => h) (by kernel_rfl) ?yw321 hS ?nw321
        case yw321 => (intro w9 hSw; obtain ⟨s1, s2, _⟩ := hSw; go_simp; try with_reducible rfl)
        refine wpAnyM_take (i := 22) (v := ?vw322) hB rfl (by kernel_rfl) (fun _ _ _ h => h) (by kernel_rfl) ?yw322 hS ?nw322
        case yw322 => (intro w9 hSw; obtain ⟨s1, s2, _⟩ := hSw; go_simp; try with_reducible rfl)
        refine wpAnyM_take (i := 23) (v := ?vw323) hB rfl (by kernel_rfl) (fun _ _ _ h => h) (by kernel_rfl) ?yw323 hS ?nw323
        case yw323 => (intro w9 hSw; obtain ⟨s1, s2, _⟩ := hSw; go_simp; try with_reducible rfl)
        go_simp
        refine wpAnyM_oneG (i := 18) rfl (by kernel_rfl) (by kernel_rfl) ?_
        have HS18 := Lib.hid hS
        clear hS
        go_wp2_with fail
        refine (HC.out _ HG2.out).mono ?_
        rintro e y3 ⟨v, rfl, hv, g3⟩
        have HG3 : Hid (Grows w y3) := HG2.out.trans g3
        have HT18 := Lib.hid (CellsAre.keep HS18.out g3)
        obtain ⟨A', m, c', hve⟩ := hv.form3
        have hm9 : (comE es bs).length = m := by
          obtain ⟨x, y, h1, _⟩ := hv.form
          rw [hve] at h1
          injection h1 with _ h2 _
          exact h2.symm
        subst hve
        rw [hm9] at HL hcl
        clear g3 HS18 HG2 hv hm9
        go_wp2_with fail
        refine ⟨HT18.out, ?_⟩
        have hS := HT18.out
        clear HT18
        refine wpAnyM_take (i := 19) (v := .slice A' m c') hB rfl (by kernel_rfl) (fun _ _ _ h => h) (by kernel_rfl) ?yw319 hS ?nw319
        case yw319 => (intro w9 _; go_simp; first | done | rfl)
        refine wpAnyM_take (i := 20) (v := ?vw320) hB rfl (by kernel_rfl) (fun _ _ _ h => h) (by kernel_rfl) ?yw320 hS ?nw320
        case yw320 => (intro w9 hSw; obtain ⟨s1, s2, _⟩ := hSw; go_simp; try with_reducible rfl)
        by_cases hmn : m = n
        · have HZ : Hid (sameL es bs = true) := HL.out.2 hmn
          subst hmn
          refine wpAnyM_take (i := 24) (v := .bool true) hB rfl (by kernel_rfl) (fun _ _ _ h => h) (by kernel_rfl) ?yq1 hS ?nq1
          case yq1 => (intro w9 _; go_simp; first | done | simp)
          refine wpAnyM_take (i := 25) (v := ?vq2x25) hB rfl (by kernel_rfl) (fun _ _ _ h => h) (by kernel_rfl) ?yq2x25 hS ?nq2x25
          case yq2x25 => (intro w9 hSw; obtain ⟨s1, s2, _⟩ := hSw; go_simp; try with_reducible rfl)
          refine wpAnyM_tail (by kernel_rfl) ?_
          clear hS hB
          go_wp2
          go_ret
          exact ⟨ret_bool HZ.out.symm, HG3.out⟩
        · have HZ : Hid (sameL es bs = false) := Bool.eq_false_iff.2 (fun h => hmn (HL.out.1 h))
          have hle : ((m : Int) == (n : Int)) = false := by rw [beq_eq_false_iff_ne]; omega
          have hle2 : decide ((m : Int) = (n : Int)) = false := by rw [decide_eq_false_iff_not]; omega
          refine wpAnyM_take (i := 24) (v := .bool false) hB rfl (by kernel_rfl) (fun _ _ _ h => h) (by kernel_rfl) ?yq3 hS ?nq3
          case yq3 => (intro w9 _; go_simp; first | done | simp [hle, hle2])
          refine wpAnyM_take (i := 25) (v := ?vq4x25) hB rfl (by kernel_rfl) (fun _ _ _ h => h) (by kernel_rfl) ?yq4x25 hS ?nq4x25
          case yq4x25 => (intro w9 hSw; obtain ⟨s1, s2, _⟩ := hSw; go_simp; try with_reducible rfl)
          refine wpAnyM_tail (by kernel_rfl) ?_
          clear hS hB
          go_wp2
          go_ret
          exact ⟨ret_bool HZ.out.symm, HG3.out⟩
      · have HZ : Hid (sameL es bs = false) := sameL_len hl
        obtain ⟨n, hnn⟩ : ∃ n, es.length = n := ⟨_, rfl⟩
        obtain ⟨m, hmm⟩ : ∃ m, bs.length = m := ⟨_, rfl⟩
        rw [hnn] at HI HC k0 k1 HGB hn hl ⊢
        rw [hmm] at HJ HC k0 k1 HGB hm hl ⊢
        clear hnn hmm hv hu HV
        have hle : ((n : Int) == (m : Int)) = false := by rw [beq_eq_false_iff_ne]; omega
        have hle2 : decide ((n : Int) = (m : Int)) = false := by rw [decide_eq_false_iff_not]; omega
        go_enter Tryd.func10, Tryd.ntmps10
        go_wp2_with fail
        refine wp_region_M 26 (CellsAre [(⟨w.heap.size, 0, none⟩, .slice A n c), (⟨w.heap.size + 1, 0, none⟩, .slice B m d)]) (by kernel_rfl) (by kernel_rfl) ⟨k0, k1, trivial⟩ (fun hB hS => ?_)
        clear k0 k1
        have HG0 : Hid (Grows w _) := HGB.out
        clear HGB
        refine wpAnyM_take (i := 0) (v := ?vw20) hB rfl (by kernel_rfl) (fun _ _ _ h => h) (by kernel_rfl) ?yw20 hS ?nw20
        case yw20 => (intro w9 hSw; obtain ⟨s1, s2, _⟩ := hSw; go_simp; try with_reducible rfl)
        refine wpAnyM_one (i := 1) rfl (by kernel_rfl) rfl ?_
        have HS1 := Lib.hid hS
        clear hS
        go_wp2_with fail
        refine (HI.out _ HG0.out).mono ?_
        rintro e y1 ⟨rfl, g1⟩
        have HG1 : Hid (Grows w y1) := HG0.out.trans g1
        have HT1 := Lib.hid (CellsAre.keep HS1.out g1)
        clear g1 HS1 HG0
        go_wp2_with fail
        refine ⟨HT1.out, ?_⟩
        have hS := HT1.out
        clear HT1
        refine wpAnyM_take (i := 2) (v := ?vw22) hB rfl (by kernel_rfl) (fun _ _ _ h => h) (by kernel_rfl) ?yw22 hS ?nw22
        case yw22 => (intro w9 hSw; obtain ⟨s1, s2, _⟩ := hSw; go_simp; try with_reducible rfl)
        refine wpAnyM_take (i := 3) (v := ?vw23) hB rfl (by kernel_rfl) (fun _ _ _ h => h) (by kernel_rfl) ?yw23 hS ?nw23
        case yw23 => (intro w9 hSw; obtain ⟨s1, s2, _⟩ := hSw; go_simp; try with_reducible rfl)
        refine wpAnyM_oneG (i := 4) rfl (by kernel_rfl) (by kernel_rfl) ?_
        have HS4 := Lib.hid hS
        clear hS
        go_wp2_with fail
        refine (HJ.out _ HG1.out).mono ?_
        rintro e y2 ⟨rfl, g2⟩
        have HG2 : Hid (Grows w y2) := HG1.out.trans g2
        have HT4 := Lib.hid (CellsAre.keep HS4.out g2)
        clear g2 HS4 HG1
        go_wp2_with fail
        refine ⟨HT4.out, ?_⟩
        have hS := HT4.out
        clear HT4
        refine wpAnyM_take (i := 5) (v := ?vw25) hB rfl (by kernel_rfl) (fun _ _ _ h => h) (by kernel_rfl) ?yw25 hS ?nw25
        case yw25 => (intro w9 hSw; obtain ⟨s1, s2, _⟩ := hSw; go_simp; try with_reducible rfl)
        refine wpAnyM_take (i := 6) (v := ?vw26) hB rfl (by kernel_rfl) (fun _ _ _ h => h) (by kernel_rfl) ?yw26 hS ?nw26
        case yw26 => (intro w9 hSw; obtain ⟨s1, s2, _⟩ := hSw; go_simp; try with_reducible rfl)
        refine wpAnyM_take (i := 7) (v := ?vw27) hB rfl (by kernel_rfl) (fun _ _ _ h => h) (by kernel_rfl) ?yw27 hS ?nw27
        case yw27 => (intro w9 hSw; obtain ⟨s1, s2, _⟩ := hSw; go_simp; try with_reducible rfl)
        refine wpAnyM_take (i := 8) (v := ?vw28) hB rfl (by kernel_rfl) (fun _ _ _ h => h) (by kernel_rfl) ?yw28 hS ?nw28
        case yw28 => (intro w9 hSw; obtain ⟨s1, s2, _⟩ := hSw; go_simp; try with_reducible rfl)
        refine wpAnyM_take (i := 9) (v := ?vw29) hB rfl (by kernel_rfl) (fun _ _ _ h => h) (by kernel_rfl) ?yw29 hS ?nw29
        case yw29 => (intro w9 hSw; obtain ⟨s1, s2, _⟩ := hSw; go_simp; try with_reducible rfl)
        refine wpAnyM_take (i := 10) (v := ?vw210) hB rfl (by kernel_rfl) (fun _ _ _ h => h) (by kernel_rfl) ?yw210 hS ?nw210
        case yw210 => (intro w9 hSw; obtain ⟨s1, s2, _⟩ := hSw; go_simp; try with_reducible rfl)
        refine wpAnyM_take (i := 11) (v := ?vw211) hB rfl (by kernel_rfl) (fun _ _ _ h => h) (by kernel_rfl) ?yw211 hS ?nw211
        case yw211 => (intro w9 hSw; obtain ⟨s1, s2, _⟩ := hSw; go_simp; try with_reducible rfl)
        refine wpAnyM_take (i := 12) (v := ?vw212) hB rfl (by kernel_rfl) (fun _ _ _ h => h) (by kernel_rfl) ?yw212 hS ?nw212
        case yw212 => (intro w9 hSw; obtain ⟨s1, s2, _⟩ := hSw; go_simp; try with_reducible rfl)
        refine wpAnyM_take (i := 13) (v := .bool false) hB rfl (by kernel_rfl) (fun _ _ _ h => h) (by kernel_rfl) ?yw213 hS ?nw213
        case yw213 => (intro w9 _; go_simp; first | done | simp [hle, hle2])
        refine wpAnyM_take (i := 14) (v := ?vw214) hB rfl (by kernel_rfl) (fun _ _ _ h => h) (by kernel_rfl) ?yw214 hS ?nw214
        case yw214 => (intro w9 hSw; obtain ⟨s1, s2, _⟩ := hSw; go_simp; try with_reducible rfl)
        refine wpAnyM_take (i := 15) (v := ?vw215) hB rfl (by kernel_rfl) (fun _ _ _ h => h) (by kernel_rfl) ?yw215 hS ?nw215
        case yw215 => (intro w9 hSw; obtain ⟨s1, s2, _⟩ := hSw; go_simp; try with_reducible rfl)
        refine wpAnyM_skip (i := 16) hB rfl (by kernel_rfl) (fun _ _ _ h => h) (by kernel_rfl) hS ?_
        refine wpAnyM_skip (i := 17) hB rfl (by kernel_rfl) (fun _ _ _ h => h) (by kernel_rfl) hS ?_
        refine wpAnyM_skip (i := 18) hB rfl (by kernel_rfl) (fun _ _ _ h => h) (by kernel_rfl) hS ?_
        refine wpAnyM_skip (i := 19) hB rfl (by kernel_rfl) (fun _ _ _ h => h) (by kernel_rfl) hS ?_
        refine wpAnyM_skip (i := 20) hB rfl (by kernel_rfl) (fun _ _ _ h => h) (by kernel_rfl) hS ?_
        refine wpAnyM_skip (i := 21) hB rfl (by kernel_rfl) (fun _ _ _ h => h) (by kernel_rfl) hS ?_
        refine wpAnyM_skip (i := 22) hB rfl (by kernel_rfl) (fun _ _ _ h => h) (by kernel_rfl) hS ?_
        refine wpAnyM_skip (i := 23) hB rfl (by kernel_rfl) (fun _ _ _ h => h) (by kernel_rfl) hS ?_
        refine wpAnyM_skip (i := 24) hB rfl (by kernel_rfl) (fun _ _ _ h => h) (by kernel_rfl) hS ?_
        refine wpAnyM_take (i := 25) (v := ?vw225) hB rfl (by kernel_rfl) (fun _ _ _ h => h) (by kernel_rfl) ?yw225 hS ?nw225
        case yw225 => (intro w9 hSw; obtain ⟨s1, s2, _⟩ := hSw; go_simp; try with_reducible rfl)
        refine wpAnyM_tail (by kernel_rfl) ?_
        clear hS hB
        go_wp2
        go_ret
        exact ⟨ret_bool HZ.out.symm, HG2.out⟩
    · have hu' : vlayer bs = false := by simpa using hu
      have HZ : Hid (sameL es bs = false) := by unfold Hid; rw [HV.out, hu']; simp
      rw [hu'] at HJ
      clear hv hu hu' HV
      obtain ⟨n, hnn⟩ : ∃ n, es.length = n := ⟨_, rfl⟩
      obtain ⟨m, hmm⟩ : ∃ m, bs.length = m := ⟨_, rfl⟩
      rw [hnn] at HI HC k0 k1 HGB hn ⊢
      rw [hmm] at HJ HC k0 k1 HGB hm ⊢
      clear hnn hmm
      go_enter Tryd.func10, Tryd.ntmps10
      go_wp2_with fail
      refine wp_region_M 26 (CellsAre [(⟨w.heap.size, 0, none⟩, .slice A n c), (⟨w.heap.size + 1, 0, none⟩, .slice B m d)]) (by kernel_rfl) (by kernel_rfl) ⟨k0, k1, trivial⟩ (fun hB hS => ?_)
      clear k0 k1
      have HG0 : Hid (Grows w _) := HGB.out
      clear HGB
      refine wpAnyM_take (i := 0) (v := ?vw10) hB rfl (by kernel_rfl) (fun _ _ _ h => h) (by kernel_rfl) ?yw10 hS ?nw10
      case yw10 => (intro w9 hSw; obtain ⟨s1, s2, _⟩ := hSw; go_simp; try with_reducible rfl)
      refine wpAnyM_one (i := 1) rfl (by kernel_rfl) rfl ?_
      have HS1 := Lib.hid hS
      clear hS
      go_wp2_with fail
      refine (HI.out _ HG0.out).mono ?_
      rintro e y1 ⟨rfl, g1⟩
      have HG1 : Hid (Grows w y1) := HG0.out.trans g1
      have HT1 := Lib.hid (CellsAre.keep HS1.out g1)
      clear g1 HS1 HG0
      go_wp2_with fail
      refine ⟨HT1.out, ?_⟩
      have hS := HT1.out
      clear HT1
      refine wpAnyM_take (i := 2) (v := ?vw12) hB rfl (by kernel_rfl) (fun _ _ _ h => h) (by kernel_rfl) ?yw12 hS ?nw12
      case yw12 => (intro w9 hSw; obtain ⟨s1, s2, _⟩ := hSw; go_simp; try with_reducible rfl)
      refine wpAnyM_take (i := 3) (v := ?vw13) hB rfl (by kernel_rfl) (fun _ _ _ h => h) (by kernel_rfl) ?yw13 hS ?nw13
      case yw13 => (intro w9 hSw; obtain ⟨s1, s2, _⟩ := hSw; go_simp; try with_reducible rfl)
      refine wpAnyM_oneG (i := 4) rfl (by kernel_rfl) (by kernel_rfl) ?_
      have HS4 := Lib.hid hS
      clear hS
      go_wp2_with fail
      refine (HJ.out _ HG1.out).mono ?_
      rintro e y2 ⟨rfl, g2⟩
      have HG2 : Hid (Grows w y2) := HG1.out.trans g2
      have HT4 := Lib.hid (CellsAre.keep HS4.out g2)
      clear g2 HS4 HG1
      go_wp2_with fail
      refine ⟨HT4.out, ?_⟩
      have hS := HT4.out
      clear HT4
      refine wpAnyM_take (i := 5) (v := ?vw15) hB rfl (by kernel_rfl) (fun _ _ _ h => h) (by kernel_rfl) ?yw15 hS ?nw15
      case yw15 => (intro w9 hSw; obtain ⟨s1, s2, _⟩ := hSw; go_simp; try with_reducible rfl)
      refine wpAnyM_take (i := 6) (v := ?vw16) hB rfl (by kernel_rfl) (fun _ _ _ h => h) (by kernel_rfl) ?yw16 hS ?nw16
      case yw16 => (intro w9 hSw; obtain ⟨s1, s2, _⟩ := hSw; go_simp; try with_reducible rfl)
      refine wpAnyM_skip (i := 7) hB rfl (by kernel_rfl) (fun _ _ _ h => h) (by kernel_rfl) hS ?_
      refine wpAnyM_skip (i := 8) hB rfl (by kernel_rfl) (fun _ _ _ h => h) (by kernel_rfl) hS ?_
      refine wpAnyM_skip (i := 9) hB rfl (by kernel_rfl) (fun _ _ _ h => h) (by kernel_rfl) hS ?_
      refine wpAnyM_skip (i := 10) hB rfl (by kernel_rfl) (fun _ _ _ h => h) (by kernel_rfl) hS ?_
      refine wpAnyM_skip (i := 11) hB rfl (by kernel_rfl) (fun _ _ _ h => h) (by kernel_rfl) hS ?_
      refine wpAnyM_skip (i := 12) hB rfl (by kernel_rfl) (fun _ _ _ h => h) (by kernel_rfl) hS ?_
      refine wpAnyM_skip (i := 13) hB rfl (by kernel_rfl) (fun _ _ _ h => h) (by kernel_rfl) hS ?_
      refine wpAnyM_take (i := 14) (v := ?vw114) hB rfl (by kernel_rfl) (fun _ _ _ h => h) (by kernel_rfl) ?yw114 hS ?nw114
      case yw114 => (intro w9 hSw; obtain ⟨s1, s2, _⟩ := hSw; go_simp; try with_reducible rfl)
      refine wpAnyM_take (i := 15) (v := ?vw115) hB rfl (by kernel_rfl) (fun _ _ _ h => h) (by kernel_rfl) ?yw115 hS ?nw115
      case yw115 => (intro w9 hSw; obtain ⟨s1, s2, _⟩ := hSw; go_simp; try with_reducible rfl)
      refine wpAnyM_skip (i := 16) hB rfl (by kernel_rfl) (fun _ _ _ h => h) (by kernel_rfl) hS ?_
      refine wpAnyM_skip (i := 17) hB rfl (by kernel_rfl) (fun _ _ _ h => h) (by kernel_rfl) hS ?_
      refine wpAnyM_skip (i := 18) hB rfl (by kernel_rfl) (fun _ _ _ h => h) (by kernel_rfl) hS ?_
      refine wpAnyM_skip (i := 19) hB rfl (by kernel_rfl) (fun _ _ _ h => h) (by kernel_rfl) hS ?_
      refine wpAnyM_skip (i := 20) hB rfl (by kernel_rfl) (fun _ _ _ h => h) (by kernel_rfl) hS ?_
      refine wpAnyM_skip (i := 21) hB rfl (by kernel_rfl) (fun _ _ _ h => h) (by kernel_rfl) hS ?_
      refine wpAnyM_skip (i := 22) hB rfl (by kernel_rfl) (fun _ _ _ h => h) (by kernel_rfl) hS ?_
      refine wpAnyM_skip (i := 23) hB rfl (by kernel_rfl) (fun _ _ _ h => h) (by kernel_rfl) hS ?_
      refine wpAnyM_skip (i := 24) hB rfl (by kernel_rfl) (fun _ _ _ h => h) (by kernel_rfl) hS ?_
      refine wpAnyM_take (i := 25) (v := ?vw125) hB rfl (by kernel_rfl) (fun _ _ _ h => h) (by kernel_rfl) ?yw125 hS ?nw125
      case yw125 => (intro w9 hSw; obtain ⟨s1, s2, _⟩ := hSw; go_simp; try with_reducible rfl)
      refine wpAnyM_tail (by kernel_rfl) ?_
      clear hS hB
      go_wp2
      go_ret
      exact ⟨ret_bool HZ.out.symm, HG2.out⟩
  · have hv' : vlayer es = false := by simpa using hv
    have HZ : Hid (sameL es bs = false) := by unfold Hid; rw [HV.out, hv']; simp
    rw [hv'] at HI
    clear hv hv' HV
    obtain ⟨n, hnn⟩ : ∃ n, es.length = n := ⟨_, rfl⟩
    obtain ⟨m, hmm⟩ : ∃ m, bs.length = m := ⟨_, rfl⟩
    rw [hnn] at HI HC k0 k1 HGB hn ⊢
    rw [hmm] at HJ HC k0 k1 HGB hm ⊢
    clear hnn hmm
    go_enter Tryd.func10, Tryd.ntmps10
    go_wp2_with fail
    refine wp_region_M 26 (CellsAre [(⟨w.heap.size, 0, none⟩, .slice A n c), (⟨w.heap.size + 1, 0, none⟩, .slice B m d)]) (by kernel_rfl) (by kernel_rfl) ⟨k0, k1, trivial⟩ (fun hB hS => ?_)
    clear k0 k1
    have HG0 : Hid (Grows w _) := HGB.out
    clear HGB
    refine wpAnyM_take (i := 0) (v := ?vw00) hB rfl (by kernel_rfl) (fun _ _ _ h => h) (by kernel_rfl) ?yw00 hS ?nw00
    case yw00 => (intro w9 hSw; obtain ⟨s1, s2, _⟩ := hSw; go_simp; try with_reducible rfl)
    refine wpAnyM_one (i := 1) rfl (by kernel_rfl) rfl ?_
    have HS1 := Lib.hid hS
    clear hS
    go_wp2_with fail
    refine (HI.out _ HG0.out).mono ?_
    rintro e y1 ⟨rfl, g1⟩
    have HG1 : Hid (Grows w y1) := HG0.out.trans g1
    have HT1 := Lib.hid (CellsAre.keep HS1.out g1)
    clear g1 HS1 HG0
    go_wp2_with fail
    refine ⟨HT1.out, ?_⟩
    have hS := HT1.out
    clear HT1
    refine wpAnyM_take (i := 2) (v := ?vw02) hB rfl (by kernel_rfl) (fun _ _ _ h => h) (by kernel_rfl) ?yw02 hS ?nw02
    case yw02 => (intro w9 hSw; obtain ⟨s1, s2, _⟩ := hSw; go_simp; try with_reducible rfl)
    refine wpAnyM_skip (i := 3) hB rfl (by kernel_rfl) (fun _ _ _ h => h) (by kernel_rfl) hS ?_
    refine wpAnyM_skip (i := 4) hB rfl (by kernel_rfl) (fun _ _ _ h => h) (by kernel_rfl) hS ?_
    refine wpAnyM_take (i := 5) (v := ?vw05) hB rfl (by kernel_rfl) (fun _ _ _ h => h) (by kernel_rfl) ?yw05 hS ?nw05
    case yw05 => (intro w9 hSw; obtain ⟨s1, s2, _⟩ := hSw; go_simp; try with_reducible rfl)
    refine wpAnyM_take (i := 6) (v := ?vw06) hB rfl (by kernel_rfl) (fun _ _ _ h => h) (by kernel_rfl) ?yw06 hS ?nw06
    case yw06 => (intro w9 hSw; obtain ⟨s1, s2, _⟩ := hSw; go_simp; try with_reducible rfl)
    refine wpAnyM_skip (i := 7) hB rfl (by kernel_rfl) (fun _ _ _ h => h) (by kernel_rfl) hS ?_
    refine wpAnyM_skip (i := 8) hB rfl (by kernel_rfl) (fun _ _ _ h => h) (by kernel_rfl) hS ?_
    refine wpAnyM_skip (i := 9) hB rfl (by kernel_rfl) (fun _ _ _ h => h) (by kernel_rfl) hS ?_
    refine wpAnyM_skip (i := 10) hB rfl (by kernel_rfl) (fun _ _ _ h => h) (by kernel_rfl) hS ?_
    refine wpAnyM_skip (i := 11) hB rfl (by kernel_rfl) (fun _ _ _ h => h) (by kernel_rfl) hS ?_
    refine wpAnyM_skip (i := 12) hB rfl (by kernel_rfl) (fun _ _ _ h => h) (by kernel_rfl) hS ?_
    refine wpAnyM_skip (i := 13) hB rfl (by kernel_rfl) (fun _ _ _ h => h) (by kernel_rfl) hS ?_
    refine wpAnyM_take (i := 14) (v := ?vw014) hB rfl (by kernel_rfl) (fun _ _ _ h => h) (by kernel_rfl) ?yw014 hS ?nw014
    case yw014 => (intro w9 hSw; obtain ⟨s1, s2, _⟩ := hSw; go_simp; try with_reducible rfl)
    refine wpAnyM_take (i := 15) (v := ?vw015) hB rfl (by kernel_rfl) (fun _ _ _ h => h) (by kernel_rfl) ?yw015 hS ?nw015
    case yw015 => (intro w9 hSw; obtain ⟨s1, s2, _⟩ := hSw; go_simp; try with_reducible rfl)
    refine wpAnyM_skip (i := 16) hB rfl (by kernel_rfl) (fun _ _ _ h => h) (by kernel_rfl) hS ?_
    refine wpAnyM_skip (i := 17) hB rfl (by kernel_rfl) (fun _ _ _ h => h) (by kernel_rfl) hS ?_
    refine wpAnyM_skip (i := 18) hB rfl (by kernel_rfl) (fun _ _ _ h => h) (by kernel_rfl) hS ?_
    refine wpAnyM_skip (i := 19) hB rfl (by kernel_rfl) (fun _ _ _ h => h) (by kernel_rfl) hS ?_
    refine wpAnyM_skip (i := 20) hB rfl (by kernel_rfl) (fun _ _ _ h => h) (by kernel_rfl) hS ?_
    refine wpAnyM_skip (i := 21) hB rfl (by kernel_rfl) (fun _ _ _ h => h) (by kernel_rfl) hS ?_
    refine wpAnyM_skip (i := 22) hB rfl (by kernel_rfl) (fun _ _ _ h => h) (by kernel_rfl) hS ?_
    refine wpAnyM_skip (i := 23) hB rfl (by kernel_rfl) (fun _ _ _ h => h) (by kernel_rfl) hS ?_
    refine wpAnyM_skip (i := 24) hB rfl (by kernel_rfl) (fun _ _ _ h => h) (by kernel_rfl) hS ?_
    refine wpAnyM_take (i := 25) (v := ?vw025) hB rfl (by kernel_rfl) (fun _ _ _ h => h) (by kernel_rfl) ?yw025 hS ?nw025
    case yw025 => (intro w9 hSw; obtain ⟨s1, s2, _⟩ := hSw; go_simp; try with_reducible rfl)
    refine wpAnyM_tail (by kernel_rfl) ?_
    clear hS hB
    go_wp2
    go_ret
    exact ⟨ret_bool HZ.out.symm, HG1.out⟩
end Go.Proofs.YtkjoolmhcfajnaaDoor
