/-
  Entries checked, copied and put: validEntries and slices.Clone of the program, checkedLayer, copyEntries and put of the specification. Conditions: at most 1048570 entries.
-/
import Derived.Test.YtoicohheoddfjaaDoorCutE
import Derived.Test.YtoicohheoddfjaaDoorGEnt
import Derived.WalkSpells
namespace Go.Proofs.YtoicohheoddfjaaDoor
open Go.RowKit

/-- these entries if they are a valid layer, else none -/
def chkE (K : List Ent) : List Ent := if vlayer K = true then K else []
theorem chkE_le (K : List Ent) : (chkE K).length ≤ K.length := by
  unfold chkE
  split <;> simp
def ChkRetE (K : List Ent) (base : Nat) (w : World) (e : Ending) (w' : World) : Prop := ∃ u, e = .returned (.tuple #[.agg #[u], .bool (vlayer K)]) ∧ OwnE w' base u (chkE K) ∧ Grows w w'

set_option maxRecDepth 100000 in
set_option maxHeartbeats 1000000 in
theorem validEntries_any (v : Value) (base : Nat) (K : List Ent) (w : World) (hf : EFit K) (h : OwnE w base v K) :
    Calls Tryd.prog 30 #[v] w (ChkRetE K base w) := by
  obtain ⟨A, c, hv, hcap, hA⟩ := OwnE.formC h
  subst hv
  have HF := Lib.hid (fun w1 (g : Grows w w1) => implLayer_any A c K w1 hf (hA.keep g))
  have HO := Lib.hid h
  clear hA h hf hcap
  by_cases hv : vlayer K = true
  · rw [hv] at HF
    have HK : Hid (chkE K = K ∧ vlayer K = true) := ⟨by unfold chkE; rw [if_pos hv], hv⟩
    clear hv
    obtain ⟨n, hnn⟩ : ∃ n, K.length = n := ⟨_, rfl⟩
    rw [hnn] at HF HO ⊢
    clear hnn
    go_enter Tryd.func30, Tryd.ntmps30
    go_wp2_with fail
    refine (HF.out _ (((Grows.refl _).alloc _).alloc _)).mono ?_
    rintro e w1 ⟨rfl, g1⟩
    have G1 : Grows ((w.alloc (lbox none 0 0)).alloc (lbox A n c)) w1 := g1
    have h1 : w1.cell? ⟨w.heap.size, 0, none⟩ = some (.slice none 0 0) := (G1.cell (p := ⟨w.heap.size, 0, none⟩) (by simp; omega)).trans (by simp [lbox])
    have h2 : w1.frozen? ⟨w.heap.size, 0, none⟩ = false := (G1.frozen (p := ⟨w.heap.size, 0, none⟩) (by simp; omega)).trans (by simp [lbox])
    have h3 : w1.cell? ⟨w.heap.size + 1, 0, none⟩ = some (.slice A n c) := (G1.cell (p := ⟨w.heap.size + 1, 0, none⟩) (by simp)).trans (by simp [lbox])
    have HG1 : Hid (Grows w w1) := (((Grows.refl _).alloc _).alloc _).trans g1
    have HO1 := Lib.hid (HO.out.keep HG1.out)
    have HLT := Lib.hid HO.out.lt
    clear g1 G1
    go_wp2
    refine bodyPost_ret (v := .tuple #[.agg #[.slice A n c], .bool true]) (by simp [results, Tryd.results30, go_sem, h1]) rfl ?_
    unfold ChkRetE
    rw [HK.out.1, HK.out.2]
    exact ⟨_, rfl, HO1.out.setFar (fun e => by have := (HLT.out _ e).2; omega) _, HG1.out.setCell (by simp) _⟩
  · have hv' : vlayer K = false := by simpa using hv
    rw [hv'] at HF
    have HK : Hid (chkE K = [] ∧ vlayer K = false) := ⟨by unfold chkE; rw [if_neg hv], hv'⟩
    clear hv hv'
    go_enter Tryd.func30, Tryd.ntmps30
    go_wp2_with fail
    refine (HF.out _ (((Grows.refl _).alloc _).alloc _)).mono ?_
    rintro e w1 ⟨rfl, g1⟩
    have G1 : Grows ((w.alloc (lbox none 0 0)).alloc (lbox A K.length c)) w1 := g1
    have h1 : w1.cell? ⟨w.heap.size, 0, none⟩ = some (.slice none 0 0) := (G1.cell (p := ⟨w.heap.size, 0, none⟩) (by simp; omega)).trans (by simp [lbox])
    have h2 : w1.frozen? ⟨w.heap.size, 0, none⟩ = false := (G1.frozen (p := ⟨w.heap.size, 0, none⟩) (by simp; omega)).trans (by simp [lbox])
    have HG1 : Hid (Grows w w1) := (((Grows.refl _).alloc _).alloc _).trans g1
    clear g1 G1
    go_wp2
    refine bodyPost_ret (v := .tuple #[.agg #[.slice none 0 0], .bool false]) (by simp [results, Tryd.results30, go_sem, h1]) rfl ?_
    unfold ChkRetE
    rw [HK.out.1, HK.out.2]
    exact ⟨_, rfl, OwnE.nil _ _, HG1.out.setCell (by simp) _⟩

set_option maxRecDepth 100000 in
set_option maxHeartbeats 1000000 in
theorem checkedLayer_any (v : Value) (base : Nat) (K : List Ent) (w : World) (hf : EFit K) (h : OwnE w base v K) :
    Calls Tryd.prog 42 #[v] w (ChkRetE K base w) := by
  obtain ⟨A, c, hv, hcap, hA⟩ := OwnE.formC h
  subst hv
  have HF := Lib.hid (fun w1 (g : Grows w w1) => specLayer_any A c K w1 hcap hf (hA.keep g))
  have HO := Lib.hid h
  clear hA h hf hcap
  by_cases hv : vlayer K = true
  · rw [hv] at HF
    have HK : Hid (chkE K = K ∧ vlayer K = true) := ⟨by unfold chkE; rw [if_pos hv], hv⟩
    clear hv
    obtain ⟨n, hnn⟩ : ∃ n, K.length = n := ⟨_, rfl⟩
    rw [hnn] at HF HO ⊢
    clear hnn
    go_enter Tryd.func42, Tryd.ntmps42
    go_wp2_with fail
    refine (HF.out _ (((Grows.refl _).alloc _).alloc _)).mono ?_
    rintro e w1 ⟨rfl, g1⟩
    have G1 : Grows ((w.alloc (lbox none 0 0)).alloc (lbox A n c)) w1 := g1
    have h1 : w1.cell? ⟨w.heap.size, 0, none⟩ = some (.slice none 0 0) := (G1.cell (p := ⟨w.heap.size, 0, none⟩) (by simp; omega)).trans (by simp [lbox])
    have h2 : w1.frozen? ⟨w.heap.size, 0, none⟩ = false := (G1.frozen (p := ⟨w.heap.size, 0, none⟩) (by simp; omega)).trans (by simp [lbox])
    have h3 : w1.cell? ⟨w.heap.size + 1, 0, none⟩ = some (.slice A n c) := (G1.cell (p := ⟨w.heap.size + 1, 0, none⟩) (by simp)).trans (by simp [lbox])
    have HG1 : Hid (Grows w w1) := (((Grows.refl _).alloc _).alloc _).trans g1
    have HO1 := Lib.hid (HO.out.keep HG1.out)
    have HLT := Lib.hid HO.out.lt
    clear g1 G1
    go_wp2
    refine bodyPost_ret (v := .tuple #[.agg #[.slice A n c], .bool true]) (by simp [results, Tryd.results42, go_sem, h1]) rfl ?_
    unfold ChkRetE
    rw [HK.out.1, HK.out.2]
    exact ⟨_, rfl, HO1.out.setFar (fun e => by have := (HLT.out _ e).2; omega) _, HG1.out.setCell (by simp) _⟩
  · have hv' : vlayer K = false := by simpa using hv
    rw [hv'] at HF
    have HK : Hid (chkE K = [] ∧ vlayer K = false) := ⟨by unfold chkE; rw [if_neg hv], hv'⟩
    clear hv hv'
    go_enter Tryd.func42, Tryd.ntmps42
    go_wp2_with fail
    refine (HF.out _ (((Grows.refl _).alloc _).alloc _)).mono ?_
    rintro e w1 ⟨rfl, g1⟩
    have G1 : Grows ((w.alloc (lbox none 0 0)).alloc (lbox A K.length c)) w1 := g1
    have h1 : w1.cell? ⟨w.heap.size, 0, none⟩ = some (.slice none 0 0) := (G1.cell (p := ⟨w.heap.size, 0, none⟩) (by simp; omega)).trans (by simp [lbox])
    have h2 : w1.frozen? ⟨w.heap.size, 0, none⟩ = false := (G1.frozen (p := ⟨w.heap.size, 0, none⟩) (by simp; omega)).trans (by simp [lbox])
    have HG1 : Hid (Grows w w1) := (((Grows.refl _).alloc _).alloc _).trans g1
    clear g1 G1
    go_wp2
    refine bodyPost_ret (v := .tuple #[.agg #[.slice none 0 0], .bool false]) (by simp [results, Tryd.results42, go_sem, h1]) rfl ?_
    unfold ChkRetE
    rw [HK.out.1, HK.out.2]
    exact ⟨_, rfl, OwnE.nil _ _, HG1.out.setCell (by simp) _⟩


/-! ### copies -/
def putR (es : List Ent) (e : Ent) : List Ent := if 0 ≤ entIdx es e.s e.k then es.set (entIdx es e.s e.k).toNat e else es ++ [e]
def putE (es : List Ent) (e : Ent) : List Ent := if vlayer es = true then chkE (putR es e) else []
def putB (es : List Ent) (e : Ent) : Bool := vlayer es && vlayer (putR es e)
theorem putR_le (es : List Ent) (e : Ent) : (putR es e).length ≤ es.length + 1 := by
  unfold putR
  split <;> simp
theorem putE_le (es : List Ent) (e : Ent) : (putE es e).length ≤ es.length + 1 := by
  unfold putE
  split
  · exact Nat.le_trans (chkE_le _) (putR_le es e)
  · simp
theorem putR_fit {es : List Ent} {e : Ent} (h : EFit es) (hl : es.length + 1 ≤ 1048576) (he : e.fits) : EFit (putR es e) := by
  have hm : ∀ x ∈ putR es e, x ∈ es ∨ x = e := fun x hx => by
    unfold putR at hx
    split at hx
    · exact List.mem_or_eq_of_mem_set hx
    · rcases List.mem_append.1 hx with h1 | h1
      · exact .inl h1
      · exact .inr (by simpa using h1)
  refine ⟨Nat.le_trans (putR_le es e) hl, fun i hi => ?_⟩
  rcases hm _ (List.getElem_mem hi) with h1 | h1
  · obtain ⟨j, hj, e1⟩ := List.getElem_of_mem h1
    rw [← e1]
    exact h.2 j hj
  · rw [h1]
    exact he
/-- the world with an entry in four cells -/
def st4 (w : World) (g o : Nat) (e : Ent) : World :=
  (((w.setCell ⟨g, o, none⟩ (.string e.s)).setCell ⟨g, o + 1, none⟩ (.string e.k)).setCell ⟨g, o + 2, none⟩ (.int .i64 e.op)).setCell ⟨g, o + 3, none⟩ (.string e.v)
theorem OwnE.setEnt {w : World} {base g n c : Nat} {K : List Ent} (h : OwnE w base (.slice (some ⟨g, 0, none⟩) n c) K) (hn : K.length = n) {k : Nat} (hk : k < K.length) (e : Ent) : OwnE (st4 w g (k * 4) e) base (.slice (some ⟨g, 0, none⟩) n c) (K.set k e) := by
  have e0 : ∀ (x : Ent), (K.set k x)[k]'(by simpa using hk) = x := fun x => by simp
  have f1 := h.field hn hk 0 (by decide) (.string e.s) (l := ⟨e.s, K[k].k, K[k].op, K[k].v⟩) rfl
  have f2 := f1.field (by simpa using hn) (k := k) (by simpa using hk) 1 (by decide) (.string e.k) (l := ⟨e.s, e.k, K[k].op, K[k].v⟩) (by rw [e0]; rfl)
  rw [List.set_set] at f2
  have f3 := f2.field (by simpa using hn) (k := k) (by simpa using hk) 2 (by decide) (.int .i64 e.op) (l := ⟨e.s, e.k, e.op, K[k].v⟩) (by rw [e0]; rfl)
  rw [List.set_set] at f3
  have f4 := f3.field (by simpa using hn) (k := k) (by simpa using hk) 3 (by decide) (.string e.v) (l := e) (by rw [e0]; rfl)
  rw [List.set_set] at f4
  exact f4
theorem gb_st4 (w : World) (g o : Nat) (e : Ent) : w.grownBy (st4 w g o e) (some g) :=
  gb_set (gb_set (gb_set (gb_set (World.grownBy.refl _ _) _ _) _ _) _ _) _ _
theorem entIdx_lt (es : List Ent) (s k : ByteArray) : entIdx es s k < es.length ∧ -1 ≤ entIdx es s k := by
  rcases entFrom_cases s k es 0 with h | ⟨q, _, h1, h2⟩
  · unfold entIdx
    omega
  · unfold entIdx
    omega

end Go.Proofs.YtoicohheoddfjaaDoor
