/-
  Entries checked, copied and put: validEntries and slices.Clone of the program, checkedLayer, copyEntries and put of the specification. Conditions: at most 1048570 entries.
-/
import Derived.Test.YtkjoolmhcfajnaaDoorCutE
import Derived.Test.YtkjoolmhcfajnaaDoorGEnt
import Derived.WalkSpells
namespace Go.Proofs.YtkjoolmhcfajnaaDoor
open Go.RowKit

/-- these entries if they are a valid layer, else none -/
def chkE (K : List Ent) : List Ent := if vlayer K = true then K else []
theorem chkE_le (K : List Ent) : (chkE K).length ≤ K.length := by
  unfold chkE
  split <;> simp
def ChkRetE (K : List Ent) (base : Nat) (w : World) (e : Ending) (w' : World) : Prop := ∃ u, e = .returned (.tuple #[.agg #[u], .bool (vlayer K)]) ∧ OwnE w' base u (chkE K) ∧ Grows w w'

set_option maxRecDepth 100000 in
set_option maxHeartbeats 1000000 in
theorem validEntries_any (v : Value) (base : Nat) (K : List Ent) (w : World) (hf : EFit K) (h : OwnE w base v K) :
    Calls Tryd.prog 15 #[v] w (ChkRetE K base w) := by
  obtain ⟨A, c, hv, hcap, hA⟩ := OwnE.formC h
  subst hv
  have HF := Lib.hid (fun w1 (g : Grows w w1) => implLayer_any A c K w1 hf (hA.keep g))
  have HO := Lib.hid h
  clear hA h hf hcap
  by_cases hv : vlayer K = true
  · rw [hv] at HF
    have HK : Hid (chkE K = K ∧ vlayer K = true) := ⟨by unfold chkE; rw [if_pos hv], hv⟩
    clear hv
    obtain ⟨n, hnn⟩ : ∃ n, K.length = n := ⟨_, rfl⟩
    rw [hnn] at HF HO ⊢
    clear hnn
    go_enter Tryd.func15, Tryd.ntmps15
    go_wp2_with fail
    refine (HF.out _ (((Grows.refl _).alloc _).alloc _)).mono ?_
    rintro e w1 ⟨rfl, g1⟩
    have G1 : Grows ((w.alloc (lbox none 0 0)).alloc (lbox A n c)) w1 := g1
    have h1 : w1.cell? ⟨w.heap.size, 0, none⟩ = some (.slice none 0 0) := (G1.cell (p := ⟨w.heap.size, 0, none⟩) (by simp; omega)).trans (by simp [lbox])
    have h2 : w1.frozen? ⟨w.heap.size, 0, none⟩ = false := (G1.frozen (p := ⟨w.heap.size, 0, none⟩) (by simp; omega)).trans (by simp [lbox])
    have h3 : w1.cell? ⟨w.heap.size + 1, 0, none⟩ = some (.slice A n c) := (G1.cell (p := ⟨w.heap.size + 1, 0, none⟩) (by simp)).trans (by simp [lbox])
    have HG1 : Hid (Grows w w1) := (((Grows.refl _).alloc _).alloc _).trans g1
    have HO1 := Lib.hid (HO.out.keep HG1.out)
    have HLT := Lib.hid HO.out.lt
    clear g1 G1
    go_wp2
    refine bodyPost_ret (v := .tuple #[.agg #[.slice A n c], .bool true]) (by simp [results, Tryd.results15, go_sem, h1]) rfl ?_
    unfold ChkRetE
    rw [HK.out.1, HK.out.2]
    exact ⟨_, rfl, HO1.out.setFar (fun e => by have := (HLT.out _ e).2; omega) _, HG1.out.setCell (by simp) _⟩
  · have hv' : vlayer K = false := by simpa using hv
    rw [hv'] at HF
    have HK : Hid (chkE K = [] ∧ vlayer K = false) := ⟨by unfold chkE; rw [if_neg hv], hv'⟩
    clear hv hv'
    go_enter Tryd.func15, Tryd.ntmps15
    go_wp2_with fail
    refine (HF.out _ (((Grows.refl _).alloc _).alloc _)).mono ?_
    rintro e w1 ⟨rfl, g1⟩
    have G1 : Grows ((w.alloc (lbox none 0 0)).alloc (lbox A K.length c)) w1 := g1
    have h1 : w1.cell? ⟨w.heap.size, 0, none⟩ = some (.slice none 0 0) := (G1.cell (p := ⟨w.heap.size, 0, none⟩) (by simp; omega)).trans (by simp [lbox])
    have h2 : w1.frozen? ⟨w.heap.size, 0, none⟩ = false := (G1.frozen (p := ⟨w.heap.size, 0, none⟩) (by simp; omega)).trans (by simp [lbox])
    have HG1 : Hid (Grows w w1) := (((Grows.refl _).alloc _).alloc _).trans g1
    clear g1 G1
    go_wp2
    refine bodyPost_ret (v := .tuple #[.agg #[.slice none 0 0], .bool false]) (by simp [results, Tryd.results15, go_sem, h1]) rfl ?_
    unfold ChkRetE
    rw [HK.out.1, HK.out.2]
    exact ⟨_, rfl, OwnE.nil _ _, HG1.out.setCell (by simp) _⟩

set_option maxRecDepth 100000 in
set_option maxHeartbeats 2000000 in
theorem specCopyE_none (c : Nat) (w : World) :
    Calls Tryd.prog 41 #[.slice none 0 c] w fun e w' => e = .returned (.slice (some ⟨w.heap.size, 0, none⟩) 0 0) ∧ w' = w.alloc (.cells #[] 33) := by
  obtain ⟨i0, hi, hz0, hz1, hz2⟩ := info_parts infoEntry
  go_enter Tryd.func41, Tryd.ntmps41
  go_wp2
  go_ret
  exact ⟨rfl, rfl⟩
theorem specCopyEO_any (A : Option Addr) (c : Nat) (ls : List Ent) (w : World) (hn : ls.length ≤ 1048576) (hA : EntsAt w A ls) :
    Calls Tryd.prog 41 #[.slice A ls.length c] w (RetE ls w) := by
  rcases A with _ | A
  · rcases Nat.eq_zero_or_pos ls.length with h0 | h0
    · have h1 : ls = [] := List.eq_nil_of_length_eq_zero h0
      subst h1
      refine (specCopyE_none c w).mono ?_
      rintro e w' ⟨rfl, rfl⟩
      exact ⟨_, rfl, OwnE.empty w w.heap.size (Nat.le_refl _), (Grows.refl w).alloc _⟩
    · obtain ⟨b, o, e, _⟩ := hA h0
      cases e
  · exact specCopyE_any A c ls w hn hA
def putR (es : List Ent) (e : Ent) : List Ent := if 0 ≤ entIdx es e.s e.k then es.set (entIdx es e.s e.k).toNat e else es ++ [e]
def putE (es : List Ent) (e : Ent) : List Ent := if vlayer es = true then chkE (putR es e) else []
def putB (es : List Ent) (e : Ent) : Bool := vlayer es && vlayer (putR es e)
theorem putR_le (es : List Ent) (e : Ent) : (putR es e).length ≤ es.length + 1 := by
  unfold putR
  split <;> simp
theorem putE_le (es : List Ent) (e : Ent) : (putE es e).length ≤ es.length + 1 := by
  unfold putE
  split
  · exact Nat.le_trans (chkE_le _) (putR_le es e)
  · simp
theorem putR_fit {es : List Ent} {e : Ent} (h : EFit es) (hl : es.length + 1 ≤ 1048576) (he : e.fits) : EFit (putR es e) := by
  have hm : ∀ x ∈ putR es e, x ∈ es ∨ x = e := fun x hx => by
    unfold putR at hx
    split at hx
    · exact List.mem_or_eq_of_mem_set hx
    · rcases List.mem_append.1 hx with h1 | h1
      · exact .inl h1
      · exact .inr (by simpa using h1)
  refine ⟨Nat.le_trans (putR_le es e) hl, fun i hi => ?_⟩
  rcases hm _ (List.getElem_mem hi) with h1 | h1
  · obtain ⟨j, hj, e1⟩ := List.getElem_of_mem h1
    rw [← e1]
    exact h.2 j hj
  · rw [h1]
    exact he
/-- the world with an entry in four cells -/
def st4 (w : World) (g o : Nat) (e : Ent) : World :=
  (((w.setCell ⟨g, o, none⟩ (.string e.s)).setCell ⟨g, o + 1, none⟩ (.string e.k)).setCell ⟨g, o + 2, none⟩ (.int .i64 e.op)).setCell ⟨g, o + 3, none⟩ (.string e.v)
theorem OwnE.setEnt {w : World} {base g n c : Nat} {K : List Ent} (h : OwnE w base (.slice (some ⟨g, 0, none⟩) n c) K) (hn : K.length = n) {k : Nat} (hk : k < K.length) (e : Ent) : OwnE (st4 w g (k * 4) e) base (.slice (some ⟨g, 0, none⟩) n c) (K.set k e) := by
  have e0 : ∀ (x : Ent), (K.set k x)[k]'(by simpa using hk) = x := fun x => by simp
  have f1 := h.field hn hk 0 (by decide) (.string e.s) (l := ⟨e.s, K[k].k, K[k].op, K[k].v⟩) rfl
  have f2 := f1.field (by simpa using hn) (k := k) (by simpa using hk) 1 (by decide) (.string e.k) (l := ⟨e.s, e.k, K[k].op, K[k].v⟩) (by rw [e0]; rfl)
  rw [List.set_set] at f2
  have f3 := f2.field (by simpa using hn) (k := k) (by simpa using hk) 2 (by decide) (.int .i64 e.op) (l := ⟨e.s, e.k, e.op, K[k].v⟩) (by rw [e0]; rfl)
  rw [List.set_set] at f3
  have f4 := f3.field (by simpa using hn) (k := k) (by simpa using hk) 3 (by decide) (.string e.v) (l := e) (by rw [e0]; rfl)
  rw [List.set_set] at f4
  exact f4
theorem gb_st4 (w : World) (g o : Nat) (e : Ent) : w.grownBy (st4 w g o e) (some g) :=
  gb_set (gb_set (gb_set (gb_set (World.grownBy.refl _ _) _ _) _ _) _ _) _ _
theorem entIdx_lt (es : List Ent) (s k : ByteArray) : entIdx es s k < es.length ∧ -1 ≤ entIdx es s k := by
  rcases entFrom_cases s k es 0 with h | ⟨q, _, h1, h2⟩
  · unfold entIdx
    omega
  · unfold entIdx
    omega

set_option maxRecDepth 100000 in
set_option maxHeartbeats 4000000 in
theorem specPut_any (A : Option Addr) (c : Nat) (es : List Ent) (e : Ent) (w : World) (hn : es.length ≤ 1048570) (hA : EntsAt w A es) :
    Calls Tryd.prog 45 #[.slice A es.length c, e.agg] w (RetE (putR es e) w) := by
  have HCP := Lib.hid (fun w1 (g : Grows w w1) => specCopyEO_any A c es w1 (by omega) (hA.keep g))
  unfold RetE at HCP
  have hix := entIdx_lt es e.s e.k
  have HPU : Hid (putR es e = if 0 ≤ entIdx es e.s e.k then es.set (entIdx es e.s e.k).toNat e else es ++ [e]) := rfl
  clear hA
  unfold Ent.agg
  go_enter Tryd.func45, Tryd.ntmps45
  go_wp2_with fail
  refine (HCP.out _ ((Grows.refl _).alloc _)).mono ?_
  rintro r w1 ⟨v, rfl, hv, g1⟩
  have HG1 : Hid (Grows w w1) := ((Grows.refl _).alloc _).trans g1
  have BE : Hid (BoxE w1 w.heap.size e 33) := (BoxE.new w e 33).keep g1
  have HO : Hid (OwnE w1 (w.heap.size + 1) v es) := hv.less (by simp)
  clear g1 hv
  obtain ⟨A1, c1, hv1, hE1⟩ := OwnE.form HO.out
  subst hv1
  have HE := Lib.hid (entryAt_any A1 c1 es e.s e.k w1 (by omega) hE1)
  clear hE1
  obtain ⟨ix, hixx⟩ : ∃ ix, entIdx es e.s e.k = ix := ⟨_, rfl⟩
  rw [hixx] at HE HPU hix
  clear hixx
  have b0 := BE.out.at0
  have b1 := BE.out.at1
  have b2 := BE.out.at2
  have b3 := BE.out.at3
  go_wp2_with fail
  refine (HE.out).mono ?_
  rintro r w2 ⟨rfl, rfl⟩
  by_cases h0 : 0 ≤ ix
  · obtain ⟨k, rfl⟩ := Int.eq_ofNat_of_zero_le h0
    have hk : k < es.length := by omega
    have HPV : Hid (putR es e = es.set k e) := by unfold Hid; rw [HPU.out, if_pos h0]; rfl
    obtain ⟨g, cv, hv9, hg0, hg1⟩ := HO.out.row2 (by omega)
    injection hv9 with hv91 hv92 hv93
    subst hv91
    obtain ⟨v0, e0⟩ := HO.out.some_ rfl hk (d := 0) (by decide)
    obtain ⟨v1, e1⟩ := HO.out.some_ rfl hk (d := 1) (by decide)
    obtain ⟨v2, e2⟩ := HO.out.some_ rfl hk (d := 2) (by decide)
    obtain ⟨v3, e3⟩ := HO.out.some_ rfl hk (d := 3) (by decide)
    rw [Nat.add_zero] at e0
    have f0 := HO.out.free (k * 4)
    have f1 := HO.out.free (k * 4 + 1)
    have f2 := HO.out.free (k * 4 + 2)
    have f3 := HO.out.free (k * 4 + 3)
    have O6 := Lib.hid (HO.out.setEnt rfl hk e)
    have G6 : Hid (Grows w (st4 w1 g (k * 4) e)) := HG1.out.mark (gb_st4 w1 g (k * 4) e) (fun i hi => by injection hi with hi; omega)
    clear hv92 hv93
    obtain ⟨n, hnn⟩ : ∃ n, es.length = n := ⟨_, rfl⟩
    rw [hnn] at hk O6 hn ⊢
    clear hnn HO HE HCP HPU
    go_upto_region 5 with (fail)
    change Code.wp _ _ _ _ (st4 w1 g (k * 4) e)
    obtain ⟨w6, hw6⟩ : ∃ w6, st4 w1 g (k * 4) e = w6 := ⟨_, rfl⟩
    rw [hw6] at O6 G6 ⊢
    clear hw6 e0 e1 e2 e3 f0 f1 f2 f3 b0 b1 b2 b3
    go_wp2
    go_ret
    rw [HPV.out]
    exact ⟨_, rfl, O6.out.less (by omega), G6.out⟩
  · have HPV : Hid (putR es e = es ++ [e]) := by unfold Hid; rw [HPU.out, if_neg h0]
    have hbs : w.heap.size + 1 ≤ w1.heap.size := BE.out.lt
    have hOal := Lib.hid (HO.out.keep ((Grows.refl w1).alloc (.cells #[.string e.s, .string e.k, .int .i64 e.op, .string e.v] 33)))
    go_wp2_with (at_builtin; refine appEs rfl _ _ rfl (w.heap.size + 1) _ es rfl hOal.out ⟨w1.heap.size, 0, none⟩ 1 1 [e] rfl rfl (by omega) (one_newsE w1 e _ rfl) (by omega) (by omega) (Nat.le_trans hbs (by simp)) ?_)
    intro v' w6 HO6 HGB HNE
    have G6 : Hid (Grows w w6) := (HG1.out.alloc (.cells #[.string e.s, .string e.k, .int .i64 e.op, .string e.v] 33)).mark HGB.out (fun i hi => by have := (hOal.out.lt i hi).1; omega)
    clear HGB HNE
    go_wp2
    go_ret
    rw [HPV.out]
    exact ⟨_, rfl, HO6.out.less (by omega), G6.out⟩
end Go.Proofs.YtkjoolmhcfajnaaDoor
