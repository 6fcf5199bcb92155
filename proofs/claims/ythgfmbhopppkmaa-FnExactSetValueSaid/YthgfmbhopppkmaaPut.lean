/-
  Lines put into a file: putLines of the program. Conditions: at most 1048576 lines.
-/
import Derived.Test.YthgfmbhopppkmaaCopyF
import Derived.Test.YthgfmbhopppkmaaRegM
import Derived.IntWalk
namespace Go.Proofs.Ythgfmbhopppkmaa
open Go.RowKit

/-- the lines with more ahead of place k -/
def putL (ls : List Ln) (k : Nat) (ms : List Ln) : List Ln := ls.take k ++ (ms ++ ls.drop k)
theorem putL_length (ls : List Ln) (k : Nat) (ms : List Ln) (hk : k ≤ ls.length) : (putL ls k ms).length = ls.length + ms.length := by
  simp [putL]; omega
theorem LnsAt.take {w : World} {A : Option Addr} {ls : List Ln} (h : LnsAt w A ls) (k : Nat) : LnsAt w A (ls.take k) := fun h0 => by
  have h1 : 0 < ls.length := by rw [List.length_take] at h0; omega
  obtain ⟨b, o, e, hb, hc⟩ := h h1
  refine ⟨b, o, e, hb, fun i hi => ?_⟩
  have hi2 : i < ls.length := by rw [List.length_take] at hi; omega
  rw [List.getElem_take]
  exact hc i hi2
theorem LnsAt.drop {w : World} {b o : Nat} {ls : List Ln} (h : LnsAt w (some ⟨b, o, none⟩) ls) (k : Nat) : LnsAt w (some ⟨b, o + k * 6, none⟩) (ls.drop k) := fun h0 => by
  rw [List.length_drop] at h0
  obtain ⟨b', o', e, hb, hc⟩ := h (by omega)
  injection e with e
  injection e with e1 e2
  subst e1
  subst e2
  refine ⟨b, o + k * 6, rfl, hb, fun i hi => ?_⟩
  rw [List.length_drop] at hi
  have := hc (k + i) (by omega)
  rw [List.getElem_drop]
  rwa [show o + (k + i) * 6 = o + k * 6 + i * 6 from by omega] at this
theorem lay3 (ls ms : List Ln) (k : Nat) (hk : k ≤ ls.length) :
    lay (lay (lay (List.replicate (ls.length + ms.length) Ln.zero) 0 (ls.take k)) k ms) (k + ms.length) (ls.drop k) = putL ls k ms := by
  have h1 : lay (List.replicate (ls.length + ms.length) Ln.zero) 0 (ls.take k) = ls.take k ++ List.replicate (ls.length + ms.length - k) Ln.zero := by
    unfold lay
    rw [List.take_zero, List.nil_append, Nat.zero_add, List.length_take, Nat.min_eq_left hk, List.drop_replicate]
  have hl : (ls.take k).length = k := by rw [List.length_take, Nat.min_eq_left hk]
  have h2 : lay (ls.take k ++ List.replicate (ls.length + ms.length - k) Ln.zero) k ms = ls.take k ++ (ms ++ List.replicate (ls.length - k) Ln.zero) := by
    unfold lay
    rw [List.take_left' hl, List.drop_append, List.drop_eq_nil_of_le (by rw [hl]; omega), List.nil_append, hl, List.drop_replicate]
    congr 3
    omega
  rw [h1, h2]
  unfold lay putL
  have e1 : (ls.take k ++ (ms ++ List.replicate (ls.length - k) Ln.zero)).take (k + ms.length) = ls.take k ++ ms := by
    rw [← List.append_assoc, List.take_left' (by rw [List.length_append, hl])]
  have e2 : (ls.take k ++ (ms ++ List.replicate (ls.length - k) Ln.zero)).drop (k + ms.length + (ls.drop k).length) = [] := by
    apply List.drop_eq_nil_of_le
    simp
    omega
  rw [e1, e2, List.append_nil, List.append_assoc]

theorem RowL.drew {w : World} {g : Nat} {ls : List Ln} (h : RowL w g ls) : RowL w.drew g ls := h

set_option maxRecDepth 100000 in
set_option maxHeartbeats 400000 in
theorem putLines_any (A M : Option Addr) (mc k : Nat) (ls ms : List Ln) (w : World) (hn : ls.length ≤ 1048576) (hm : ms.length ≤ 1048576) (hm0 : 0 < ms.length) (hk : k ≤ ls.length) (hA : LnsAt w A ls) (hM : LnsAt w M ms) :
    Calls Try.prog 65 #[.slice A ls.length ls.length, .int .i64 k, .slice M ms.length mc] w (RetL (putL ls k ms) w) := by
  have HA := Lib.hid hA
  have HM := Lib.hid hM
  have HL3 := Lib.hid (lay3 ls ms k hk)
  have HPL := Lib.hid (putL_length ls k ms hk)
  obtain ⟨n, hnn⟩ : ∃ n, ls.length = n := ⟨_, rfl⟩
  obtain ⟨m, hmm⟩ : ∃ m, ms.length = m := ⟨_, rfl⟩
  obtain ⟨i0, hi, hz0, hz1, hz2⟩ := info_parts infoLine
  have hmk : ∀ W, (Instr.makeSlice 26 (.int .i64 ((n : Int) + (m : Int))) (.int .i64 ((n : Int) + (m : Int)))).run Try.prog W = .ok (.slice (some ⟨W.heap.size, 0, none⟩) (n + m) (n + m)) (W.alloc (.cells (madeCells Ln.zero.agg.cells ((n + m) * 6)) 53)) := fun W => by
    have h := run_make_rowN (P := Try.prog) 26 53 i0 _ Try.underlying26 hi hz0 .i64 .i64 (n + m) (n + m) (Nat.le_refl _) (by rw [hz2]; omega) (by omega) W
    rw [hz1, show ((n + m : Nat) : Int) = (n : Int) + (m : Int) from by omega] at h
    exact h
  have HR := Lib.hid (RowL.zeros w (n + m))
  obtain ⟨Z, hZ⟩ : ∃ Z, madeCells Ln.zero.agg.cells ((n + m) * 6) = Z := ⟨_, rfl⟩
  rw [hZ] at hmk HR
  rw [hnn, hmm] at HPL HL3
  rw [hnn] at hn hk ⊢
  rw [hmm] at hm hm0 ⊢
  have HN := Lib.hid hnn
  have HMM := Lib.hid hmm
  have HTK : Hid ((ls.take k).length = k) := by unfold Hid; rw [List.length_take, HN.out, Nat.min_eq_left hk]
  have HDK : Hid ((ls.drop k).length = n - k) := by unfold Hid; rw [List.length_drop, HN.out]
  clear hZ hnn hmm hi hz0 hz1 hz2 hA hM
  go_enter Try.func65, Try.ntmps65
  go_wp2_with (with_reducible refine copyL rfl _ _ rfl w.heap.size 0 (List.replicate (n + m) Ln.zero) (ls.take k) HR.out _ _ _ _ _ _ rfl rfl (by rw [HTK.out]; exact (Nat.min_eq_left (Nat.le_trans hk (Nat.le_add_right _ _))).symm) (fun _ => rfl) ((HA.out.keep ((Grows.refl _).alloc _)).take k) (by rw [HTK.out, List.length_replicate]; omega) ?_)
  intro w2 HR2 HG2
  have HGW2 : Hid (Grows w w2) := ((Grows.refl w).alloc _).mark HG2.out (fun k hk => by injection hk with hk; omega)
  obtain ⟨X1, hX1⟩ : ∃ X, lay (List.replicate (n + m) Ln.zero) 0 (ls.take k) = X := ⟨_, rfl⟩
  have HX1 : Hid (X1.length = n + m) := by unfold Hid; rw [← hX1, lay_length (by rw [HTK.out, List.length_replicate]; omega), List.length_replicate]
  rw [hX1] at HR2 HL3
  have hk1 : ¬ k = n + m := by omega
  have hk2 : ¬ n + m = k := by omega
  clear hX1 HG2
  go_wp2_with (with_reducible refine copyL rfl _ _ rfl w.heap.size k X1 ms HR2.out _ _ _ _ _ _ rfl rfl (by rw [HMM.out]; exact (Nat.min_eq_left (by omega)).symm) (fun _ => rfl) (HM.out.keep HGW2.out) (by rw [HMM.out, HX1.out]; omega) ?_)
  intro w3 HR3 HG3
  have HGW3 : Hid (Grows w w3) := HGW2.out.mark HG3.out (fun k hk => by injection hk with hk; omega)
  obtain ⟨X2, hX2⟩ : ∃ X, lay X1 k ms = X := ⟨_, rfl⟩
  have HX2 : Hid (X2.length = n + m) := by unfold Hid; rw [← hX2, lay_length (by rw [HMM.out, HX1.out]; omega), HX1.out]
  rw [hX2] at HR3 HL3
  clear hX2 HG3
  have hs0 : (0 : Int) ≤ (k : Int) + (m : Int) := by omega
  have hs1 : (k : Int) + (m : Int) ≤ (n : Int) + (m : Int) := by omega
  have hs2 : ((k : Int) + (m : Int)).toNat = k + m := by omega
  have hs3 : IntKind.i64.wrap ((k : Int) + (m : Int)) = (k : Int) + (m : Int) := IntWalk.i64_in _ (by omega)
  by_cases hkn : k = n
  · subst hkn
    go_wp2_with fail
    refine wp_region_M 9 (CellsAre []) (by kernel_rfl) (by kernel_rfl) trivial (fun hB hS => ?_)
    refine wpAnyM_take (i := 0) (v := ?va0) hB rfl (by kernel_rfl) (fun _ _ _ h => h) (by rfl) ?ya0 hS ?na0
    case ya0 => (intro w9 hSw; go_simp; try with_reducible rfl)
    refine wpAnyM_take (i := 1) (v := ?va1) hB rfl (by kernel_rfl) (fun _ _ _ h => h) (by rfl) ?ya1 hS ?na1
    case ya1 => (intro w9 hSw; go_simp; try with_reducible rfl)
    refine wpAnyM_take (i := 2) (v := ?va2) hB rfl (by kernel_rfl) (fun _ _ _ h => h) (by rfl) ?ya2 hS ?na2
    case ya2 => (intro w9 hSw; go_simp; try with_reducible rfl)
    refine wpAnyM_take (i := 3) (v := ?va3) hB rfl (by kernel_rfl) (fun _ _ _ h => h) (by rfl) ?ya3 hS ?na3
    case ya3 => (intro w9 hSw; go_simp; try with_reducible rfl)
    refine wpAnyM_take (i := 4) (v := ?va4) hB rfl (by kernel_rfl) (fun _ _ _ h => h) (by rfl) ?ya4 hS ?na4
    case ya4 => (intro w9 hSw; go_simp; try with_reducible rfl)
    refine wpAnyM_take (i := 5) (v := ?va5) hB rfl (by kernel_rfl) (fun _ _ _ h => h) (by rfl) ?ya5 hS ?na5
    case ya5 => (intro w9 hSw; go_simp; try with_reducible rfl)
    refine wpAnyM_take (i := 6) (v := ?va6) hB rfl (by kernel_rfl) (fun _ _ _ h => h) (by rfl) ?ya6 hS ?na6
    case ya6 => (intro w9 hSw; go_simp; try with_reducible rfl)
    refine wpAnyM_take (i := 7) (v := ?va7) hB rfl (by kernel_rfl) (fun _ _ _ h => h) (by rfl) ?ya7 hS ?na7
    case ya7 => (intro w9 hSw; go_simp; try with_reducible rfl)
    refine wpAnyM_take (i := 8) (v := ?va8) hB rfl (by kernel_rfl) (fun _ _ _ h => h) (by rfl) ?ya8 hS ?na8
    case ya8 => (intro w9 hSw; go_simp; try with_reducible rfl)
    refine wpAnyM_tail (by kernel_rfl) ?_
    clear hS hB hs0 hs1 hs2 hs3
    have HD0 : Hid (ls.drop k = []) := List.eq_nil_of_length_eq_zero (by rw [HDK.out]; omega)
    rw [HD0.out, lay_nil] at HL3
    refine copyL rfl (.tmp 29) (.tmp 32) rfl w.heap.size 0 X2 [] HR3.out.drew (some ⟨w.heap.size, 0, none⟩) A 0 0 0 0 (by simp [Act.eval, Act.put]) (by simp [Act.eval, Act.put]) (by simp) (fun h => absurd h (Nat.lt_irrefl _)) (LnsAt.nil _ _) (by simp) ?_
    intro w4 HR4 HG4
    rw [lay_nil] at HR4
    have HGW4 : Hid (Grows w w4) := HGW3.out.drew.mark HG4.out (fun k hk => by injection hk with hk; omega)
    have HF := HR4.out.own (base := w.heap.size) (Nat.le_refl _) (by rw [HX2.out]; omega)
    rw [HX2.out, HL3.out] at HF
    have HF2 := Lib.hid HF
    clear HF
    go_wp2
    go_ret
    exact ⟨_, rfl, HF2.out, HGW4.out⟩
  · have hkl : k < n := by omega
    obtain ⟨b, o, rfl, hb, _⟩ := HA.out (by rw [HN.out]; omega)
    have HSRC := Lib.hid (fun w1 (g : Grows w w1) => (HA.out.keep g).drop k)
    have hkn2 : ¬ n = k := by omega
    have hkm : ¬ k + m = n + m := by omega
    have hkm2 : ¬ n + m = k + m := by omega
    go_wp2_with fail
    refine wp_region_M 9 (CellsAre []) (by kernel_rfl) (by kernel_rfl) trivial (fun hB hS => ?_)
    refine wpAnyM_take (i := 0) (v := ?vb0) hB rfl (by kernel_rfl) (fun _ _ _ h => h) (by rfl) ?yb0 hS ?nb0
    case yb0 => (intro w9 hSw; go_simp; try with_reducible rfl)
    refine wpAnyM_take (i := 1) (v := ?vb1) hB rfl (by kernel_rfl) (fun _ _ _ h => h) (by rfl) ?yb1 hS ?nb1
    case yb1 => (intro w9 hSw; go_simp; try with_reducible rfl)
    refine wpAnyM_take (i := 2) (v := ?vb2) hB rfl (by kernel_rfl) (fun _ _ _ h => h) (by rfl) ?yb2 hS ?nb2
    case yb2 => (intro w9 hSw; go_simp; try with_reducible rfl)
    refine wpAnyM_take (i := 3) (v := ?vb3) hB rfl (by kernel_rfl) (fun _ _ _ h => h) (by rfl) ?yb3 hS ?nb3
    case yb3 => (intro w9 hSw; go_simp; try with_reducible rfl)
    refine wpAnyM_take (i := 4) (v := ?vb4) hB rfl (by kernel_rfl) (fun _ _ _ h => h) (by rfl) ?yb4 hS ?nb4
    case yb4 => (intro w9 hSw; go_simp; try with_reducible rfl)
    refine wpAnyM_take (i := 5) (v := ?vb5) hB rfl (by kernel_rfl) (fun _ _ _ h => h) (by rfl) ?yb5 hS ?nb5
    case yb5 => (intro w9 hSw; go_simp; try with_reducible rfl)
    refine wpAnyM_take (i := 6) (v := ?vb6) hB rfl (by kernel_rfl) (fun _ _ _ h => h) (by rfl) ?yb6 hS ?nb6
    case yb6 => (intro w9 hSw; go_simp; try with_reducible rfl)
    refine wpAnyM_take (i := 7) (v := ?vb7) hB rfl (by kernel_rfl) (fun _ _ _ h => h) (by rfl) ?yb7 hS ?nb7
    case yb7 => (intro w9 hSw; go_simp; try with_reducible rfl)
    refine wpAnyM_take (i := 8) (v := ?vb8) hB rfl (by kernel_rfl) (fun _ _ _ h => h) (by rfl) ?yb8 hS ?nb8
    case yb8 => (intro w9 hSw; go_simp; try with_reducible rfl)
    refine wpAnyM_tail (by kernel_rfl) ?_
    clear hS hB hs0 hs1 hs2 hs3
    refine copyL rfl (.tmp 29) (.tmp 32) rfl w.heap.size (k + m) X2 (ls.drop k) HR3.out.drew (some ⟨w.heap.size, (k + m) * 6, none⟩) (some ⟨b, o + k * 6, none⟩) (n + m - (k + m)) (n + m - (k + m)) (n - k) (n - k) (by simp [Act.eval, Act.put]) (by simp [Act.eval, Act.put]) (by rw [HDK.out, show n + m - (k + m) = n - k from by omega]; exact (Nat.min_self _).symm) (fun _ => rfl) (HSRC.out _ HGW3.out.drew) (by rw [HDK.out, HX2.out]; omega) ?_
    intro w4 HR4 HG4
    rw [HL3.out] at HR4
    have HGW4 : Hid (Grows w w4) := HGW3.out.drew.mark HG4.out (fun k hk => by injection hk with hk; omega)
    have HF := HR4.out.own (base := w.heap.size) (Nat.le_refl _) (by rw [HPL.out]; omega)
    rw [HPL.out] at HF
    have HF2 := Lib.hid HF
    clear HF
    go_wp2
    go_ret
    exact ⟨_, rfl, HF2.out, HGW4.out⟩
end Go.Proofs.Ythgfmbhopppkmaa
