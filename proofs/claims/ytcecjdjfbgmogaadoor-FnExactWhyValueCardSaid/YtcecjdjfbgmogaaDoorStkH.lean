/-
  The law's own helpers on stacks: sizes, copies, comparison, and a stack among the arguments, opened. Conditions: sizes that an int holds.
-/
import Derived.Test.YtcecjdjfbgmogaaDoorRslI
import Derived.Test.YtcecjdjfbgmogaaDoorEntH
import Derived.Test.YtcecjdjfbgmogaaDoorLawVL
namespace Go.Proofs.YtcecjdjfbgmogaaDoor
open Go.ChangeShapes Go.WideShapes Go.Deep Go.RowKit

/-- rows of layers among the arguments -/
def RawAt (w : World) (A : Option Addr) (sl : List (List Ent)) : Prop :=
  0 < sl.length → ∃ b o, A = some ⟨b, o, none⟩ ∧ b < w.heap.size ∧ ∀ i (h : i < sl.length), ∃ A' c', w.cell? ⟨b, o + i, none⟩ = some (.slice A' sl[i].length c') ∧ EntsAt w A' sl[i]
theorem RawAt.keep {w w' : World} {A : Option Addr} {sl : List (List Ent)} (h : RawAt w A sl) (g : Grows w w') : RawAt w' A sl := fun h0 => by
  obtain ⟨b, o, e, hb, hc⟩ := h h0
  refine ⟨b, o, e, Nat.lt_of_lt_of_le hb g.size, fun i hi => ?_⟩
  obtain ⟨A', c', h1, h3⟩ := hc i hi
  exact ⟨A', c', (g.cell hb).trans h1, h3.keep g⟩
theorem StackAt.raw {w : World} {A : Option Addr} {sl : List (List Ent)} (h : StackAt w A sl) : RawAt w A sl := fun h0 => by
  obtain ⟨b, o, e, hb, hc⟩ := h h0
  refine ⟨b, o, e, hb, fun i hi => ?_⟩
  obtain ⟨A', c', h1, _, h3⟩ := hc i hi
  exact ⟨A', c', h1, h3⟩
def Reach1 (l : List Ent) : Prop := l.length ≤ maxLen ∧ ∀ i (h : i < l.length), l[i].inReach
def ssum (sl : List (List Ent)) (k : Nat) : Nat := ((sl.take k).map wents).sum
theorem ssum_succ {sl : List (List Ent)} {k : Nat} (hk : k < sl.length) : ssum sl (k + 1) = ssum sl k + wents sl[k] := by
  unfold ssum
  rw [List.take_succ_eq_append_getElem hk, List.map_append, List.sum_append]
  simp
theorem ssum_le (sl : List (List Ent)) (k : Nat) : ssum sl k ≤ ssum sl sl.length := by
  unfold ssum
  rw [List.take_length]
  have h := List.take_append_drop k sl
  have : (sl.map wents).sum = ((sl.take k).map wents).sum + ((sl.drop k).map wents).sum := by
    rw [← List.sum_append, ← List.map_append, h]
  omega
def wstk (sl : List (List Ent)) : Nat := sl.length + ssum sl sl.length
theorem sfits_of {sl : List (List Ent)} {m : Int} (h : (wstk sl : Int) ≤ m) (hm : m ≤ 1048576) : sl.length ≤ 1048576 ∧ ∀ l ∈ sl, EFit l := by
  have hw : wstk sl = sl.length + ssum sl sl.length := rfl
  refine ⟨by omega, fun l hl => ?_⟩
  obtain ⟨i, hi, rfl⟩ := List.getElem_of_mem hl
  have h1 := ssum_succ hi
  have h2 := ssum_le sl (i + 1)
  exact efits_of (m := m) (by omega) hm

set_option maxRecDepth 100000 in
set_option maxHeartbeats 2000000 in
theorem szLayerS_any (A : Option Addr) (c : Nat) (sl : List (List Ent)) (left : Int) (w : World) (h0 : 0 ≤ left) (h1 : left ≤ 1048576) (hn : sl.length ≤ maxLen) (hr : ∀ i (h : i < sl.length), Reach1 sl[i]) (hA : RawAt w A sl) :
    Calls Tryd.prog 18 #[.slice A sl.length c, .int .i64 left] w fun e w' => e = .returned (.int .i64 (less left (wstk sl))) ∧ Grows w w' := by
  have HR := Lib.hid hr
  have HA := Lib.hid hA
  have HW : Hid (wstk sl = sl.length + ssum sl sl.length) := rfl
  clear hA hr
  obtain ⟨n, hnn⟩ : ∃ n, sl.length = n := ⟨_, rfl⟩
  rw [hnn] at hn
  rw [hnn]
  have HN := Lib.hid hnn
  clear hnn
  unfold maxLen at hn
  by_cases hl : left < n
  · have HV : Hid (less left (wstk sl) = -1) := less_no (by rw [HW.out, HN.out]; omega)
    go_enter Tryd.func18, Tryd.ntmps18
    go_wp2
    go_ret
    exact ⟨ret_int HV.out.symm, Grows.refl _⟩
  · go_enter Tryd.func18, Tryd.ntmps18
    go_wp2
    go_loopw [1, 5] (fun v i wr => ∃ (k : Nat) (m : Int), k ≤ n ∧ i = .int .i64 k ∧ v = .int .i64 m ∧ 0 ≤ m ∧ m ≤ 1048576 ∧ Hid (m = left - n - ssum sl k) ∧ Grows w wr) (fun _ i _ => n - (intOf i).toNat)
    case atStart => exact ⟨0, left - n, Nat.zero_le _, rfl, rfl, by omega, by omega, by unfold Hid ssum; simp, Grows.refl _⟩
    case round =>
      obtain ⟨k, m, hk, rfl, rfl, hm0, hm1, HM, hg⟩ := hrel
      have HG := Lib.hid hg
      clear hg
      by_cases hlt : k < n
      · obtain ⟨b, o, rfl, hb, hc⟩ := HA.out (by rw [HN.out]; omega)
        have hk2 : k < sl.length := by rw [HN.out]; exact hlt
        obtain ⟨A', c', h2, h3⟩ := hc k hk2
        have c0 := (HG.out.cell (p := ⟨b, o + k, none⟩) hb).trans h2
        have h4 := h3.keep HG.out
        have hre := HR.out k hk2
        have HK : Hid (ssum sl (k + 1) = ssum sl k + wents sl[k]) := ssum_succ hk2
        have HX : Hid (ssum sl (k + 1) ≤ ssum sl n) := by
          have := ssum_le sl (k + 1)
          rw [HN.out] at this
          exact this
        obtain ⟨l, hl⟩ : ∃ l, sl[k] = l := ⟨_, rfl⟩
        rw [hl] at c0 h4 hre HK
        have HS := Lib.hid (szLayer_any A' c' l m wr hm0 hm1 hre.1 hre.2 h4)
        clear hl hc h2 h3 h4 hre
        obtain ⟨q, hq⟩ : ∃ q, l.length = q := ⟨_, rfl⟩
        rw [hq] at c0 HS
        clear hq
        by_cases hv : (wents l : Int) ≤ m
        · rw [less_of hv] at HS
          go_wp2_with fail
          refine (HS.out).mono ?_
          rintro e w1 ⟨rfl, hg1⟩
          clear c0
          go_wp2
          go_roundw
          case rel => exact ⟨k + 1, m - wents l, by omega, by go_num, rfl, by omega, by omega, by have := HK.out; have := HM.out; unfold Hid; omega, HG.out.trans hg1⟩
          case measure => (simp [intOf]; try omega)
        · rw [less_no (by omega)] at HS
          have HV : Hid (less left (wstk sl) = -1) := less_no (by have := HW.out; have := HN.out; have := HX.out; have := HK.out; have := HM.out; rw [HN.out] at *; omega)
          go_wp2_with fail
          refine (HS.out).mono ?_
          rintro e w1 ⟨rfl, hg1⟩
          clear c0
          go_wp2
          go_ret
          exact ⟨ret_int HV.out.symm, HG.out.trans hg1⟩
      · obtain rfl : k = n := by omega
        have HV : Hid (less left (wstk sl) = m) := by
          have h1 := HW.out
          have h2 := HM.out
          rw [HN.out] at h1
          unfold Hid
          rw [less_of (by omega)]
          omega
        go_wp2
        go_ret
        exact ⟨ret_int HV.out.symm, HG.out⟩

/-! ### copies -/
/-- the first k layers of a stack's copy are there -/
def SCopy (w0 w : World) (g n : Nat) (sl : List (List Ent)) (k : Nat) : Prop :=
  (∃ xs, w.ownsRow w0.heap.size 25 1 (.slice (some ⟨g, 0, none⟩) n n) n xs ∧ ∀ i (_ : i < k) (h : i < sl.length), ∃ v, xs[i]? = some v ∧ OwnE w (g + 1) v sl[i]) ∧ Grows w0 w
theorem SCopy.keep {w0 a b : World} {g n k : Nat} {sl : List (List Ent)} (h : SCopy w0 a g n sl k) (hg : Grows a b) : SCopy w0 b g n sl k := by
  obtain ⟨⟨xs, h1, h2⟩, h3⟩ := h
  have hlt := (World.ownsRow.lt h1 g rfl).2
  refine ⟨⟨xs, World.ownsRow.kept (row := some a.heap.size) h1 ⟨hg.os, hg.tape, hg.output, hg.size, fun i hi _ => hg.block i hi⟩ (.inr (fun e => by
    have e' : some g = some a.heap.size := e
    injection e' with e'
    omega)), fun i hi h => ?_⟩, h3.trans hg⟩
  obtain ⟨v, h4, h5⟩ := h2 i hi h
  exact ⟨v, h4, h5.keep hg⟩
theorem SCopy.cell {w0 a : World} {g n k : Nat} {sl : List (List Ent)} (h : SCopy w0 a g n sl k) {i : Nat} (hi : i < n) : ∃ v, a.cell? ⟨g, i, none⟩ = some v := by
  obtain ⟨⟨xs, h1, _⟩, _⟩ := h
  rw [World.ownsRow.cellAt h1 i (by omega)]
  exact ⟨_, List.getElem?_eq_getElem (by rw [h1.1]; omega)⟩
theorem SCopy.frozen {w0 a : World} {g n k : Nat} {sl : List (List Ent)} (h : SCopy w0 a g n sl k) (i : Nat) : a.frozen? ⟨g, i, none⟩ = false := by
  obtain ⟨⟨xs, h1, _⟩, _⟩ := h
  exact World.ownsRow.frozenAt h1 i
theorem SCopy.put {w0 a : World} {g n k : Nat} {sl : List (List Ent)} (h : SCopy w0 a g n sl k) (hn : sl.length = n) (hk : k < sl.length) (hg0 : w0.heap.size ≤ g) {v : Value} (hv : OwnE a (g + 1) v sl[k]) : SCopy w0 (a.setCell ⟨g, k, none⟩ v) g n sl (k + 1) := by
  obtain ⟨⟨xs, h1, h2⟩, h3⟩ := h
  refine ⟨⟨xs.set k v, (World.ownsRow.stored h1 k v).1, fun i hi h => ?_⟩, h3.setCell hg0 _⟩
  by_cases e : i = k
  · subst e
    exact ⟨v, by rw [List.getElem?_set_self (by rw [h1.1]; omega)], hv.setOther (by omega) _⟩
  · obtain ⟨u, h4, h5⟩ := h2 i (by omega) h
    exact ⟨u, by rw [List.getElem?_set_ne (fun e' => e e'.symm)]; exact h4, h5.setOther (by omega) _⟩
theorem SCopy.done {w0 a : World} {g n : Nat} {sl : List (List Ent)} (h : SCopy w0 a g n sl n) (hn : sl.length = n) : StackAt a (some ⟨g, 0, none⟩) sl := fun h0 => by
  obtain ⟨⟨xs, h1, h2⟩, h3⟩ := h
  refine ⟨g, 0, rfl, (World.ownsRow.lt h1 g rfl).2, fun i hi => ?_⟩
  obtain ⟨v, h4, h5⟩ := h2 i (by omega) hi
  obtain ⟨A', c', rfl, h6, h7⟩ := h5.formC
  exact ⟨A', c', by rw [Nat.zero_add]; exact (World.ownsRow.cellAt h1 i (by omega)).trans h4, h6, h7⟩
theorem SCopy.start (w : World) (n : Nat) (sl : List (List Ent)) (hn : n ≤ 1048576) (M : Array Value) (hM : M.size = n * 1) : SCopy w (w.alloc (.cells M 25)) w.heap.size n sl 0 := by
  refine ⟨⟨M.toList, ⟨by simpa using hM, .inr ⟨_, n, M, rfl, Nat.le_refl _, heap_alloc_new w _, Nat.le_refl _, by unfold maxLen; omega, hM, ?_⟩⟩, fun i hi => absurd hi (Nat.not_lt_zero _)⟩, (Grows.refl _).alloc _⟩
  rw [List.take_of_length_le (by simp; omega)]
theorem infoLay : (Tryd.prog.info? 25).map (fun i => (i.zero, i.size, i.bytes)) = some (some (.agg #[.slice none 0 0]), 1, 24) := by kernel_rfl

set_option maxRecDepth 100000 in
set_option maxHeartbeats 2000000 in
theorem toLayerS_any (A : Option Addr) (c : Nat) (sl : List (List Ent)) (w : World) (hn : sl.length ≤ 1048576) (hf : ∀ l ∈ sl, EFit l) (hA : RawAt w A sl) :
    Calls Tryd.prog 20 #[.slice A sl.length c] w fun e w' => e = .returned (.slice (some ⟨w.heap.size, 0, none⟩) sl.length sl.length) ∧ StackAt w' (some ⟨w.heap.size, 0, none⟩) sl ∧ Grows w w' := by
  have HA := Lib.hid hA
  have HF := Lib.hid hf
  clear hA hf
  obtain ⟨n, hnn⟩ : ∃ n, sl.length = n := ⟨_, rfl⟩
  rw [hnn] at hn
  rw [hnn]
  have HN := Lib.hid hnn
  clear hnn
  obtain ⟨i0, hi, hz0, hz1, hz2⟩ := info_parts infoLay
  have hmk := fun W => run_make_rowN (P := Tryd.prog) 32 25 i0 _ Tryd.underlying32 hi hz0 .i64 .i64 n n (Nat.le_refl _) (by rw [hz2]; omega) (by omega) W
  rw [hz1] at hmk
  clear hi hz0 hz1 hz2
  obtain ⟨M, hM⟩ : ∃ M, madeCells (Value.agg #[.slice none 0 0]).cells (n * 1) = M := ⟨_, rfl⟩
  rw [hM] at hmk
  have HO := Lib.hid (SCopy.start w n sl hn M (by rw [← hM]; exact size_madeCells _ _))
  clear hM
  go_enter Tryd.func20, Tryd.ntmps20
  go_wp2
  go_loopw [4] (fun i wr => ∃ (k : Nat), k ≤ n ∧ i = .int .i64 k ∧ Hid (SCopy w wr w.heap.size n sl k)) (fun i _ => n - (intOf i).toNat)
  case atStart => exact ⟨0, Nat.zero_le _, rfl, HO⟩
  case round =>
    obtain ⟨k, hk, rfl, HO2⟩ := hrel
    by_cases hlt : k < n
    · obtain ⟨b, o, rfl, hb, hc⟩ := HA.out (by rw [HN.out]; omega)
      have hk2 : k < sl.length := by rw [HN.out]; exact hlt
      obtain ⟨A', c', h1, h3⟩ := hc k hk2
      have c0 := (HO2.out.2.cell (p := ⟨b, o + k, none⟩) hb).trans h1
      have h4 := h3.keep HO2.out.2
      have hfl := HF.out sl[k] (List.getElem_mem hk2)
      have HP := Lib.hid (fun (a : World) (v : Value) (h : SCopy w a w.heap.size n sl k) (hv : OwnE a (w.heap.size + 1) v sl[k]) => h.put HN.out hk2 (Nat.le_refl _) hv)
      obtain ⟨l, hl⟩ : ∃ l, sl[k] = l := ⟨_, rfl⟩
      rw [hl] at c0 h4 hfl HP
      have HT := Lib.hid (toLayer_any A' c' l wr hfl.1 h4)
      unfold ResE at HT
      obtain ⟨q, hq⟩ : ∃ q, l.length = q := ⟨_, rfl⟩
      rw [hq] at c0 HT
      have hgs : w.heap.size < wr.heap.size := by obtain ⟨⟨xs, h5, _⟩, _⟩ := HO2.out; exact (World.ownsRow.lt h5 _ rfl).2
      clear hl hc h1 h3 h4 hfl hq
      go_wp2_with fail
      refine (HT.out).mono ?_
      rintro e w1 ⟨v, rfl, hv, hg1⟩
      have HO3 := Lib.hid (HO2.out.keep hg1)
      obtain ⟨v0, e0⟩ := HO3.out.cell (i := k) (by omega)
      have f0 := HO3.out.frozen k
      have HV : Hid (OwnE w1 (w.heap.size + 1) v l) := hv.less (by omega)
      obtain ⟨A8, n8, c8, rfl⟩ := hv.form3
      clear hg1 hv c0
      go_wp2_with fail
      go_roundw
      case rel => exact ⟨k + 1, by omega, by go_num, Lib.hid (HP.out _ _ HO3.out HV.out)⟩
      case measure => (simp [intOf]; try omega)
    · obtain rfl : k = n := by omega
      go_wp2
      go_ret
      exact ⟨rfl, HO2.out.done HN.out, HO2.out.2⟩

set_option maxRecDepth 100000 in
set_option maxHeartbeats 2000000 in
theorem eqLayerS_any (A B : Option Addr) (c d : Nat) (sl : List (List Ent)) (w : World) (hn : sl.length ≤ 1048576) (hf : ∀ l ∈ sl, EFit l) (hA : StackAt w A sl) (hB : StackAt w B sl) :
    Calls Tryd.prog 23 #[.slice A sl.length c, .slice B sl.length d] w fun e w' => e = .returned (.bool true) ∧ Grows w w' := by
  have HA := Lib.hid hA
  have HB := Lib.hid hB
  have HF := Lib.hid hf
  clear hA hB hf
  obtain ⟨n, hnn⟩ : ∃ n, sl.length = n := ⟨_, rfl⟩
  rw [hnn] at hn
  rw [hnn]
  have HN := Lib.hid hnn
  clear hnn
  go_enter Tryd.func23, Tryd.ntmps23
  go_wp2
  go_loopw [5] (fun i wr => ∃ (k : Nat), k ≤ n ∧ i = .int .i64 k ∧ Hid (Grows w wr)) (fun i _ => n - (intOf i).toNat)
  case atStart => exact ⟨0, Nat.zero_le _, rfl, Grows.refl _⟩
  case round =>
    obtain ⟨k, hk, rfl, HG⟩ := hrel
    by_cases hlt : k < n
    · obtain ⟨b, o, rfl, hb, hc⟩ := HA.out (by rw [HN.out]; omega)
      obtain ⟨b2, o2, rfl, hb2, hc2⟩ := HB.out (by rw [HN.out]; omega)
      have hk2 : k < sl.length := by rw [HN.out]; exact hlt
      obtain ⟨A', c', h1, _, h3⟩ := hc k hk2
      obtain ⟨B', d', k1, _, k3⟩ := hc2 k hk2
      have c0 := (HG.out.cell (p := ⟨b, o + k, none⟩) hb).trans h1
      have c1 := (HG.out.cell (p := ⟨b2, o2 + k, none⟩) hb2).trans k1
      have h4 := h3.keep HG.out
      have k4 := k3.keep HG.out
      have hfl := HF.out sl[k] (List.getElem_mem hk2)
      obtain ⟨l, hl⟩ : ∃ l, sl[k] = l := ⟨_, rfl⟩
      rw [hl] at c0 c1 h4 k4 hfl
      have HE := Lib.hid (fun w1 (g : Grows wr w1) => eqLayer_any A' B' c' d' l w1 (by have := hfl.1; unfold maxLen; omega) (h4.keep g) (k4.keep g))
      obtain ⟨q, hq⟩ : ∃ q, l.length = q := ⟨_, rfl⟩
      rw [hq] at c0 c1 HE
      clear hl hc hc2 h1 h3 h4 k1 k3 k4 hfl hq
      go_wp2_with fail
      refine wp_region_M 8 (CellsAre [(⟨b, o + k, none⟩, .slice A' q c'), (⟨b2, o2 + k, none⟩, .slice B' q d')]) (by kernel_rfl) (by kernel_rfl) ⟨c0, c1, trivial⟩ (fun hB hS => ?_)
      refine wpAnyM_take (i := 0) (v := ?va0) hB rfl (by kernel_rfl) (fun _ _ _ h => h) (by rfl) ?ya0 hS ?na0
      case ya0 => (intro w9 hSw; obtain ⟨s1, s2, _⟩ := hSw; go_simp; try with_reducible rfl)
      refine wpAnyM_take (i := 1) (v := ?va1) hB rfl (by kernel_rfl) (fun _ _ _ h => h) (by rfl) ?ya1 hS ?na1
      case ya1 => (intro w9 hSw; obtain ⟨s1, s2, _⟩ := hSw; go_simp; try with_reducible rfl)
      refine wpAnyM_take (i := 2) (v := ?va2) hB rfl (by kernel_rfl) (fun _ _ _ h => h) (by rfl) ?ya2 hS ?na2
      case ya2 => (intro w9 hSw; obtain ⟨s1, s2, _⟩ := hSw; go_simp; try with_reducible rfl)
      refine wpAnyM_take (i := 3) (v := ?va3) hB rfl (by kernel_rfl) (fun _ _ _ h => h) (by rfl) ?ya3 hS ?na3
      case ya3 => (intro w9 hSw; obtain ⟨s1, s2, _⟩ := hSw; go_simp; try with_reducible rfl)
      refine wpAnyM_take (i := 4) (v := ?va4) hB rfl (by kernel_rfl) (fun _ _ _ h => h) (by rfl) ?ya4 hS ?na4
      case ya4 => (intro w9 hSw; obtain ⟨s1, s2, _⟩ := hSw; go_simp; try with_reducible rfl)
      refine wpAnyM_take (i := 5) (v := ?va5) hB rfl (by kernel_rfl) (fun _ _ _ h => h) (by rfl) ?ya5 hS ?na5
      case ya5 => (intro w9 hSw; obtain ⟨s1, s2, _⟩ := hSw; go_simp; try with_reducible rfl)
      refine wpAnyM_take (i := 6) (v := ?va6) hB rfl (by kernel_rfl) (fun _ _ _ h => h) (by rfl) ?ya6 hS ?na6
      case ya6 => (intro w9 hSw; obtain ⟨s1, s2, _⟩ := hSw; go_simp; try with_reducible rfl)
      refine wpAnyM_take (i := 7) (v := ?va7) hB rfl (by kernel_rfl) (fun _ _ _ h => h) (by rfl) ?ya7 hS ?na7
      case ya7 => (intro w9 hSw; obtain ⟨s1, s2, _⟩ := hSw; go_simp; try with_reducible rfl)
      refine wpAnyM_tail (by kernel_rfl) ?_
      clear hB hS c0 c1
      go_wp2_with fail
      refine (HE.out _ ((Grows.refl _).drew)).mono ?_
      rintro e w1 ⟨rfl, g1⟩
      have HG1 : Hid (Grows w w1) := HG.out.trans ((Grows.refl wr).drew.trans g1)
      clear g1
      go_wp2
      go_roundw
      case rel => exact ⟨k + 1, by omega, by go_num, HG1⟩
      case measure => (simp [intOf]; try omega)
    · obtain rfl : k = n := by omega
      go_wp2
      go_ret
      exact ⟨rfl, HG.out⟩

section
variable {H : Type} {enc : TypeId × Value → H} {w : World} {base : Nat} {spare : Nat → Bool} {held : Bool}
set_option maxRecDepth 100000 in
theorem open_stack {fuel : Nat} {v : Value} {x : DataW H × List MemPlace} (h : DataW.trod enc Tryd.prog w base spare held fuel 36 [v] = some x) :
    ∃ (A : Option Addr) (c : Nat) (sl : List (List Ent)), v = .slice A sl.length c ∧ RawAt w A sl ∧ (∀ i (h : i < sl.length), Reach1 sl[i]) ∧ sl.length ≤ maxLen := by
  rcases open_slice_fields Tryd.underlying36 Tryd.underlying54 (by kernel_rfl) (by kernel_rfl) h with ⟨hcs, _⟩ | ⟨a, len, cap, m, D, Pl, hcs, _, hl, hm, hmm, _, hi⟩
  · obtain rfl : v = .slice none 0 0 := by simpa using hcs
    exact ⟨none, 0, [], rfl, fun h => absurd h (Nat.lt_irrefl _), fun i h => absurd h (Nat.not_lt_zero _), Nat.zero_le _⟩
  · obtain rfl : v = .slice (some a) len cap := by simpa using hcs
    have hlm : len ≤ m := by rw [hmm]; split <;> omega
    have hx : ∀ i, i < len → ∃ l : List Ent, (∃ A' c', w.cell? (a.add (i * 1 + 0)) = some (.slice A' l.length c') ∧ EntsAt w A' l) ∧ Reach1 l := by
      intro i hil
      obtain ⟨ys, n, _, _, _, hf⟩ := hi i (by omega)
      obtain ⟨v0, y0, k0, _, t0⟩ := hf 0 _ rfl
      obtain ⟨A', c', l, rfl, hA, hr, hn⟩ := open_entries t0
      exact ⟨l, ⟨A', c', k0, hA⟩, hn, hr⟩
    obtain ⟨F, hF⟩ := choose_lt hx
    have hlen : ((List.range len).map F).length = len := by simp
    refine ⟨some a, cap, (List.range len).map F, by rw [hlen], fun h0 => ?_, fun i hi => ?_, by omega⟩
    · rw [hlen] at h0
      obtain ⟨⟨A0, c0, k0, _⟩, _⟩ := hF 0 h0
      have hsp := World.cell?_spot k0
      have hb := block_lt_of_cell k0
      obtain ⟨b, o, s⟩ := a
      have hs : s = none := by simpa [Addr.add] using hsp
      subst hs
      refine ⟨b, o, rfl, by simpa [Addr.add] using hb, fun i hi => ?_⟩
      have hi' : i < len := by simpa using hi
      obtain ⟨⟨A', c', k1, hA⟩, _⟩ := hF i hi'
      have hg : ((List.range len).map F)[i] = F i := by simp
      rw [hg]
      have ea : ∀ k, (⟨b, o, none⟩ : Addr).add k = ⟨b, o + k, none⟩ := by intro k; unfold Addr.add; split <;> simp_all
      rw [ea] at k1
      exact ⟨A', c', by rw [Nat.mul_one, Nat.add_zero] at k1; exact k1, hA⟩
    · have hi' : i < len := by simpa using hi
      have hg : ((List.range len).map F)[i] = F i := by simp
      rw [hg]
      exact (hF i hi').2
set_option maxRecDepth 100000 in
theorem open_stackAt {W : World} {b1 b0 : Nat} {sp : Nat → Bool} {hd : Bool} {r : Reach} {v : Value} {d : DataW H} {p : List MemPlace} (hval : Value.okWide Tryd.prog W r b0 36 v) (h1 : DataW.Trod enc Tryd.prog W b1 sp hd 36 v d p) :
    ∃ (A : Option Addr) (c : Nat) (sl : List (List Ent)), v = .slice A sl.length c ∧ RawAt W A sl ∧ (∀ i (h : i < sl.length), Reach1 sl[i]) ∧ sl.length ≤ maxLen := by
  obtain ⟨a1, len, cap, rfl⟩ := okWide_slice Tryd.underlying36 hval
  obtain ⟨fuel, hf⟩ := h1
  exact open_stack (v := .slice a1 len cap) (x := (d, p)) (by simpa [Value.cells] using hf)
end
end Go.Proofs.YtcecjdjfbgmogaaDoor
