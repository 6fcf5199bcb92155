/-
  SetValue: the lines that it makes; valueLines of the program; validLines also of more lines than a file may have. Conditions: at most 1048576 bytes in all.
-/
import Derived.Test.YthgfmbhopppkmaaEnd
import Derived.Test.YthgfmbhopppkmaaNoteA
namespace Go.Proofs.Ythgfmbhopppkmaa
open Go.RowKit

/-- the line with another value -/
def Ln.valued (l : Ln) (v : ByteArray) : Ln := ⟨l.k, l.le, l.na, l.se, v, l.ta⟩
def Ln.tailed (l : Ln) (v : ByteArray) : Ln := ⟨l.k, l.le, l.na, l.se, l.va, v⟩
/-- these lines with a value at one place, without a tail if the value is none -/
def valL (ls : List Ln) (k : Nat) (v : ByteArray) : List Ln := if v.toList.isEmpty = true then (ls.set k ((ls[k]!).valued v)).set k (((ls[k]!).valued v).tailed ⟨#[]⟩) else ls.set k ((ls[k]!).valued v)
theorem valL_length (ls : List Ln) (k : Nat) (v : ByteArray) : (valL ls k v).length = ls.length := by unfold valL; split <;> simp
theorem lcells_setv (K : List Ln) : ∀ (k : Nat) (h : k < K.length) (v : ByteArray), (lcells K).set (k * 6 + 4) (.string v) = lcells (K.set k (K[k].valued v)) := by
  induction K with
  | nil => intro k h; exact absurd h (by simp)
  | cons l K ih =>
    intro k h v
    cases k with
    | zero => simp [lcells, lcell, Ln.valued]
    | succ k =>
      have hl : (lcell l).length = 6 := rfl
      rw [lcells, List.set_append_right _ _ (by rw [hl]; omega), hl, show (k + 1) * 6 + 4 - 6 = k * 6 + 4 from by omega, ih k (by simpa using h) v]
      simp [lcells]
theorem lcells_sett (K : List Ln) : ∀ (k : Nat) (h : k < K.length) (v : ByteArray), (lcells K).set (k * 6 + 5) (.string v) = lcells (K.set k (K[k].tailed v)) := by
  induction K with
  | nil => intro k h; exact absurd h (by simp)
  | cons l K ih =>
    intro k h v
    cases k with
    | zero => simp [lcells, lcell, Ln.tailed]
    | succ k =>
      have hl : (lcell l).length = 6 := rfl
      rw [lcells, List.set_append_right _ _ (by rw [hl]; omega), hl, show (k + 1) * 6 + 5 - 6 = k * 6 + 5 from by omega, ih k (by simpa using h) v]
      simp [lcells]

theorem RowL.valued {w : World} {g : Nat} {K : List Ln} (h : RowL w g K) {k : Nat} (hk : k < K.length) (v : ByteArray) : RowL (w.setCell ⟨g, k * 6 + 4, none⟩ (.string v)) g (K.set k (K[k].valued v)) := by
  unfold RowL at h ⊢
  rw [← lcells_setv K k hk v]
  simp [World.setCell, Array.getElem?_modify, h]
theorem RowL.tailed {w : World} {g : Nat} {K : List Ln} (h : RowL w g K) {k : Nat} (hk : k < K.length) (v : ByteArray) : RowL (w.setCell ⟨g, k * 6 + 5, none⟩ (.string v)) g (K.set k (K[k].tailed v)) := by
  unfold RowL at h ⊢
  rw [← lcells_sett K k hk v]
  simp [World.setCell, Array.getElem?_modify, h]

set_option maxRecDepth 100000 in
set_option maxHeartbeats 2000000 in
theorem valueLines_any (A : Option Addr) (c : Nat) (ls : List Ln) (k : Nat) (v : ByteArray) (w : World) (hn : ls.length ≤ 1048576) (hk : k < ls.length) (hA : LnsAt w A ls) :
    Calls Try.prog 63 #[.slice A ls.length c, .int .i64 k, .string v] w (RetL (valL ls k v) w) := by
  have HC := Lib.hid (copyLines_any A c ls w hn hA)
  have HV0 : Hid (valL ls k v = if v.toList.isEmpty = true then (ls.set k (ls[k].valued v)).set k ((ls[k].valued v).tailed ⟨#[]⟩) else ls.set k (ls[k].valued v)) := by
    unfold Hid valL
    rw [get_bang hk]
  have HVL := Lib.hid (valL_length ls k v)
  clear hA
  obtain ⟨n, hnn⟩ : ∃ n, ls.length = n := ⟨_, rfl⟩
  rw [hnn] at HC HVL hn
  have HK := Lib.hid hk
  rw [hnn] at hk ⊢
  have HN := Lib.hid hnn
  clear hnn
  obtain ⟨V, hVV⟩ : ∃ V, valL ls k v = V := ⟨_, rfl⟩
  rw [hVV] at HV0 HVL ⊢
  clear hVV
  have hrun : ∀ w1 : World, RowL w1 w.heap.size ls → (∃ u4 u5, w1.cell? ⟨w.heap.size, k * 6 + 4, none⟩ = some u4 ∧ (w1.setCell ⟨w.heap.size, k * 6 + 4, none⟩ (.string v)).cell? ⟨w.heap.size, k * 6 + 5, none⟩ = some u5) ∧ w1.frozen? ⟨w.heap.size, k * 6 + 4, none⟩ = false ∧ (w1.setCell ⟨w.heap.size, k * 6 + 4, none⟩ (.string v)).frozen? ⟨w.heap.size, k * 6 + 5, none⟩ = false := fun w1 h => by
    have h2 := h.valued (k := k) HK.out v
    refine ⟨⟨_, _, (h.cellAt (k * 6 + 4)).trans (List.getElem?_eq_getElem (by rw [lcells_length, HN.out]; omega)), (h2.cellAt (k * 6 + 5)).trans (List.getElem?_eq_getElem (by rw [lcells_length, List.length_set, HN.out]; omega))⟩, h.free _, h2.free _⟩
  have HRUN := Lib.hid hrun
  clear hrun
  by_cases he : v.toList.isEmpty = true
  · have HV : Hid (V = (ls.set k (ls[k]'HK.out |>.valued v)).set k (((ls[k]'HK.out).valued v).tailed ⟨#[]⟩)) := by unfold Hid; rw [HV0.out, if_pos he]
    have he1 : v.toList = [] := by simpa using he
    clear he
    go_enter Try.func63, Try.ntmps63
    go_wp2_with fail
    refine (HC.out).mono ?_
    rintro e w1 ⟨rfl, hr, g1⟩
    have HR1 := Lib.hid hr
    have HG1 := Lib.hid g1
    obtain ⟨⟨u4, u5, d4, d5⟩, d6, d7⟩ := HRUN.out w1 hr
    have HR2 : Hid (RowL ((w1.setCell ⟨w.heap.size, k * 6 + 4, none⟩ (.string v)).setCell ⟨w.heap.size, k * 6 + 5, none⟩ (.string ⟨#[]⟩)) w.heap.size V) := by
      have h := (hr.valued HK.out v).tailed (k := k) (by rw [List.length_set]; exact HK.out) ⟨#[]⟩
      rw [List.getElem_set_self] at h
      rw [HV.out]
      exact h
    clear hr g1
    go_wp2
    go_ret
    have h8 := HR2.out.own (base := w.heap.size) (Nat.le_refl _) (by rw [HVL.out]; omega)
    rw [HVL.out] at h8
    exact ⟨_, rfl, h8, (HG1.out.setCell (Nat.le_refl _) _).setCell (Nat.le_refl _) _⟩
  · have HV : Hid (V = ls.set k ((ls[k]'HK.out).valued v)) := by unfold Hid; rw [HV0.out, if_neg he]
    have he1 : v.toList.isEmpty = false := by simpa using he
    have he2 : ¬ v.toList = [] := by intro h; rw [h] at he; simp at he
    clear he
    go_enter Try.func63, Try.ntmps63
    go_wp2_with fail
    refine (HC.out).mono ?_
    rintro e w1 ⟨rfl, hr, g1⟩
    have HR1 := Lib.hid hr
    have HG1 := Lib.hid g1
    obtain ⟨⟨u4, u5, d4, d5⟩, d6, d7⟩ := HRUN.out w1 hr
    have HR2 : Hid (RowL (w1.setCell ⟨w.heap.size, k * 6 + 4, none⟩ (.string v)) w.heap.size V) := by
      have h := hr.valued HK.out v
      rw [HV.out]
      exact h
    clear hr g1
    go_wp2
    go_ret
    have h8 := HR2.out.own (base := w.heap.size) (Nat.le_refl _) (by rw [HVL.out]; omega)
    rw [HVL.out] at h8
    exact ⟨_, rfl, h8, HG1.out.setCell (Nat.le_refl _) _⟩

/-! ### more lines than a file may have -/
theorem vfile_big {ls : List Ln} (h : 20 < ls.length) : vfile ls = false := by
  unfold vfile
  rw [decide_eq_false (by omega), Bool.and_false]
set_option maxHeartbeats 1000000 in
theorem implFile_big (A : Option Addr) (c : Nat) (ls : List Ln) (w : World) (h20 : 20 < ls.length) (hn : ls.length ≤ maxLen) :
    Calls Try.prog 54 #[.agg #[.slice A ls.length c]] w fun e w' => e = .returned (.bool (vfile ls)) ∧ Grows w w' := by
  have HV : Hid (vfile ls = false) := vfile_big h20
  obtain ⟨n, hnn⟩ : ∃ n, ls.length = n := ⟨_, rfl⟩
  rw [hnn] at hn h20
  rw [hnn]
  clear hnn
  unfold maxLen at hn
  go_enter Try.func54, Try.ntmps54
  go_wp2
  go_ret
  exact ⟨ret_bool HV.out.symm, (Grows.refl _).alloc _⟩
set_option maxHeartbeats 1000000 in
theorem validLines_all (v : Value) (base : Nat) (K : List Ln) (w : World) (hf : K.length ≤ 20 → AllFit K) (h : OwnL w base v K) (hn : K.length ≤ maxLen) :
    Calls Try.prog 62 #[v] w (ChkRet K base w) := by
  by_cases h20 : K.length ≤ 20
  · exact validLines_any v base K w (hf h20) h
  · obtain ⟨A, c, hv, hA⟩ := h.form
    subst hv
    have HF := Lib.hid (fun w1 => implFile_big A c K w1 (by omega) hn)
    have hv' : vfile K = false := vfile_big (by omega)
    rw [hv'] at HF
    have HK : Hid (chkL K = [] ∧ vfile K = false) := ⟨by unfold chkL; rw [if_neg (by rw [hv']; simp)], hv'⟩
    clear hv' hA h hf
    go_enter Try.func62, Try.ntmps62
    go_wp2_with fail
    refine (HF.out _).mono ?_
    rintro e w1 ⟨rfl, g1⟩
    have G1 : Grows ((w.alloc (fbox none 0 0)).alloc (fbox A K.length c)) w1 := g1
    have h1 : w1.cell? ⟨w.heap.size, 0, none⟩ = some (.slice none 0 0) := (G1.cell (p := ⟨w.heap.size, 0, none⟩) (by simp; omega)).trans (by simp [fbox])
    have h2 : w1.frozen? ⟨w.heap.size, 0, none⟩ = false := (G1.frozen (p := ⟨w.heap.size, 0, none⟩) (by simp; omega)).trans (by simp [fbox])
    have HG1 : Hid (Grows w w1) := (((Grows.refl _).alloc _).alloc _).trans g1
    clear g1 G1
    go_wp2
    refine bodyPost_ret (v := .tuple #[.agg #[.slice none 0 0], .bool false]) (by simp [results, Try.results62, go_sem, h1]) rfl ?_
    unfold ChkRet
    rw [HK.out.1, HK.out.2]
    exact ⟨_, rfl, OwnL.nil _ _, HG1.out.setCell (by simp) _⟩

/-! ### the lines of SetValue -/
def setR (ls : List Ln) (s key v : ByteArray) : List Ln :=
  if 0 ≤ whereOf ls s key then valL ls (whereOf ls s key).toNat v
  else if s.toList.isEmpty = false ∧ headsOf' ls s = [] then putL ls ls.length [headL s, pairL key v]
  else putL ls (endOf' ls s) [pairL key v]
def setL (ls : List Ln) (s key v : ByteArray) : List Ln := chkL (setR ls s key v)
def setB (ls : List Ln) (s key v : ByteArray) : Bool := vfile (setR ls s key v)
theorem setL_le (ls : List Ln) (s key v : ByteArray) : (setL ls s key v).length ≤ 1048576 := Nat.le_trans (chkL_20 _) (by omega)
end Go.Proofs.Ythgfmbhopppkmaa
