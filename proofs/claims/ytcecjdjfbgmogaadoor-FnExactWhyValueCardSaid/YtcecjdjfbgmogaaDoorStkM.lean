/-
  Copies of stacks, with what they own; marks on their entries. Conditions: sizes that an int holds.
-/
import Derived.Test.YtcecjdjfbgmogaaDoorStkH
namespace Go.Proofs.YtcecjdjfbgmogaaDoor
open Go.RowKit

/-- the first k layers of a stack's copy are there, each in a row of its own -/
def STow (w0 w : World) (g n : Nat) (sl : List (List Ent)) (k : Nat) : Prop :=
  (∃ (xs vs : List Value), w.ownsRow w0.heap.size 25 1 (.slice (some ⟨g, 0, none⟩) n n) n xs ∧ vs.length = k ∧ (∀ i, i < k → xs[i]? = vs[i]?) ∧ (∀ i v (h : i < sl.length), vs[i]? = some v → OwnE w (g + 1) v sl[i]) ∧ vs.Pairwise Apart ∧ ∀ v ∈ vs, ∀ b, v.ownBlock = some b → b < w.heap.size) ∧ Grows w0 w
theorem STow.keep {w0 a b : World} {g n k : Nat} {sl : List (List Ent)} (h : STow w0 a g n sl k) (hg : Grows a b) : STow w0 b g n sl k := by
  obtain ⟨⟨xs, vs, h1, h2, h4, h5, h6, h7⟩, h3⟩ := h
  have hlt := (World.ownsRow.lt h1 g rfl).2
  refine ⟨⟨xs, vs, World.ownsRow.kept (row := some a.heap.size) h1 ⟨hg.os, hg.tape, hg.output, hg.size, fun i hi _ => hg.block i hi⟩ (.inr (fun e => by
    have e' : some g = some a.heap.size := e
    injection e' with e'
    omega)), h2, h4, fun i v h hv => (h5 i v h hv).keep hg, h6, fun v hv b hb => Nat.lt_of_lt_of_le (h7 v hv b hb) hg.size⟩, h3.trans hg⟩
theorem STow.lt {w0 a : World} {g n k : Nat} {sl : List (List Ent)} (h : STow w0 a g n sl k) : g < a.heap.size := by
  obtain ⟨⟨xs, vs, h1, _⟩, _⟩ := h
  exact (World.ownsRow.lt h1 g rfl).2
theorem STow.cell {w0 a : World} {g n k : Nat} {sl : List (List Ent)} (h : STow w0 a g n sl k) {i : Nat} (hi : i < n) : ∃ v, a.cell? ⟨g, i, none⟩ = some v := by
  obtain ⟨⟨xs, vs, h1, _⟩, _⟩ := h
  rw [World.ownsRow.cellAt h1 i (by omega)]
  exact ⟨_, List.getElem?_eq_getElem (by rw [h1.1]; omega)⟩
theorem STow.frozen {w0 a : World} {g n k : Nat} {sl : List (List Ent)} (h : STow w0 a g n sl k) (i : Nat) : a.frozen? ⟨g, i, none⟩ = false := by
  obtain ⟨⟨xs, vs, h1, _⟩, _⟩ := h
  exact World.ownsRow.frozenAt h1 i
theorem STow.put {w0 a b : World} {g n k : Nat} {sl : List (List Ent)} (h : STow w0 a g n sl k) (hg : Grows a b) (hn : sl.length = n) (hk : k < sl.length) (hg0 : w0.heap.size ≤ g) {v : Value} (hv : OwnE b a.heap.size v sl[k]) : STow w0 (b.setCell ⟨g, k, none⟩ v) g n sl (k + 1) := by
  have hga := h.lt
  obtain ⟨⟨xs, vs, h1, h2, h4, h5, h6, h7⟩, h3⟩ := h
  have hrow := World.ownsRow.kept (row := some a.heap.size) h1 ⟨hg.os, hg.tape, hg.output, hg.size, fun i hi _ => hg.block i hi⟩ (.inr (fun e => by
    have e' : some g = some a.heap.size := e
    injection e' with e'
    omega))
  have hvg : OwnE b (g + 1) v sl[k] := hv.less hga
  have hsz : (b.setCell ⟨g, k, none⟩ v).heap.size = b.heap.size := by simp [World.setCell]
  refine ⟨⟨xs.set k v, vs ++ [v], (World.ownsRow.stored hrow k v).1, by simp [h2], fun i hi => ?_, fun i u hi hu => ?_, ?_, fun u hu c hc => ?_⟩, (h3.trans hg).setCell hg0 _⟩
  · by_cases e : i = k
    · subst e
      rw [List.getElem?_set_self (by rw [h1.1]; omega), List.getElem?_append_right (by omega), h2]
      simp
    · rw [List.getElem?_set_ne (fun e' => e e'.symm), List.getElem?_append_left (by omega)]
      exact h4 i (by omega)
  · by_cases e : i = k
    · subst e
      rw [List.getElem?_append_right (by omega), h2] at hu
      simp at hu
      subst hu
      exact hvg.setOther (by omega) _
    · have hik : i < k := by
        rcases Nat.lt_or_ge i k with h | h
        · exact h
        · rw [List.getElem?_eq_none (by simp; omega)] at hu
          cases hu
      rw [List.getElem?_append_left (by omega)] at hu
      exact ((h5 i u hi hu).keep hg).setOther (by omega) _
  · rw [List.pairwise_append]
    refine ⟨h6, by simp, fun u hu y hy => ?_⟩
    rw [List.mem_singleton] at hy
    subst hy
    exact Apart.less (b := a.heap.size) (h7 u hu) (fun c hc => (hv.lt c hc).1)
  · rw [hsz]
    rcases List.mem_append.1 hu with h | h
    · exact Nat.lt_of_lt_of_le (h7 u h c hc) hg.size
    · rw [List.mem_singleton] at h
      subst h
      exact (hv.lt c hc).2
theorem STow.start (w : World) (n : Nat) (sl : List (List Ent)) (hn : n ≤ 1048576) (M : Array Value) (hM : M.size = n * 1) : STow w (w.alloc (.cells M 25)) w.heap.size n sl 0 := by
  refine ⟨⟨M.toList, [], ⟨by simpa using hM, .inr ⟨_, n, M, rfl, Nat.le_refl _, heap_alloc_new w _, Nat.le_refl _, by unfold maxLen; omega, hM, ?_⟩⟩, rfl, fun i hi => absurd hi (Nat.not_lt_zero _), fun i v _ h => by simp at h, List.Pairwise.nil, fun v hv => by cases hv⟩, (Grows.refl _).alloc _⟩
  rw [List.take_of_length_le (by simp; omega)]
/-- a copy of a stack, each layer in a row of its own -/
def Tow (w : World) (g : Nat) (sl : List (List Ent)) (vs : List Value) : Prop :=
  g < w.heap.size ∧ vs.length = sl.length ∧ (∀ i v, vs[i]? = some v → w.cell? ⟨g, i, none⟩ = some v) ∧ (∀ i v (h : i < sl.length), vs[i]? = some v → OwnE w (g + 1) v sl[i]) ∧ vs.Pairwise Apart
theorem Tow.keep {a b : World} {g : Nat} {sl : List (List Ent)} {vs : List Value} (h : Tow a g sl vs) (hg : Grows a b) : Tow b g sl vs :=
  ⟨Nat.lt_of_lt_of_le h.1 hg.size, h.2.1, fun i v hv => (hg.cell (p := ⟨g, i, none⟩) h.1).trans (h.2.2.1 i v hv), fun i v hi hv => (h.2.2.2.1 i v hi hv).keep hg, h.2.2.2.2⟩
theorem Tow.stack {w : World} {g : Nat} {sl : List (List Ent)} {vs : List Value} (h : Tow w g sl vs) : StackAt w (some ⟨g, 0, none⟩) sl := fun h0 => by
  refine ⟨g, 0, rfl, h.1, fun i hi => ?_⟩
  have hv : vs[i]? = some (vs[i]'(by rw [h.2.1]; exact hi)) := List.getElem?_eq_getElem _
  obtain ⟨A', c', e, h6, h7⟩ := (h.2.2.2.1 i _ hi hv).formC
  rw [e] at hv
  exact ⟨A', c', by rw [Nat.zero_add]; exact h.2.2.1 i _ hv, h6, h7⟩
theorem STow.done {w0 a : World} {g n : Nat} {sl : List (List Ent)} (h : STow w0 a g n sl n) (hn : sl.length = n) : ∃ vs, Tow a g sl vs := by
  have hl := h.lt
  obtain ⟨⟨xs, vs, h1, h2, h4, h5, h6, h7⟩, h3⟩ := h
  refine ⟨vs, hl, by omega, fun i v hv => ?_, h5, h6⟩
  have hi : i < n := by
    rcases Nat.lt_or_ge i n with h | h
    · exact h
    · rw [List.getElem?_eq_none (by omega)] at hv
      cases hv
  rw [World.ownsRow.cellAt h1 i (by omega), h4 i hi]
  exact hv

set_option maxRecDepth 100000 in
set_option maxHeartbeats 2000000 in
theorem toLayerT_any (A : Option Addr) (c : Nat) (sl : List (List Ent)) (w : World) (hn : sl.length ≤ 1048576) (hf : ∀ l ∈ sl, EFit l) (hA : RawAt w A sl) :
    Calls Tryd.prog 20 #[.slice A sl.length c] w fun e w' => e = .returned (.slice (some ⟨w.heap.size, 0, none⟩) sl.length sl.length) ∧ (∃ vs, Tow w' w.heap.size sl vs) ∧ Grows w w' := by
  have HA := Lib.hid hA
  have HF := Lib.hid hf
  clear hA hf
  obtain ⟨n, hnn⟩ : ∃ n, sl.length = n := ⟨_, rfl⟩
  rw [hnn] at hn
  rw [hnn]
  have HN := Lib.hid hnn
  clear hnn
  obtain ⟨i0, hi, hz0, hz1, hz2⟩ := info_parts infoLay
  have hmk := fun W => run_make_rowN (P := Tryd.prog) 32 25 i0 _ Tryd.underlying32 hi hz0 .i64 .i64 n n (Nat.le_refl _) (by rw [hz2]; omega) (by omega) W
  rw [hz1] at hmk
  clear hi hz0 hz1 hz2
  obtain ⟨M, hM⟩ : ∃ M, madeCells (Value.agg #[.slice none 0 0]).cells (n * 1) = M := ⟨_, rfl⟩
  rw [hM] at hmk
  have HO := Lib.hid (STow.start w n sl hn M (by rw [← hM]; exact size_madeCells _ _))
  clear hM
  go_enter Tryd.func20, Tryd.ntmps20
  go_wp2
  go_loopw [4] (fun i wr => ∃ (k : Nat), k ≤ n ∧ i = .int .i64 k ∧ Hid (STow w wr w.heap.size n sl k)) (fun i _ => n - (intOf i).toNat)
  case atStart => exact ⟨0, Nat.zero_le _, rfl, HO⟩
  case round =>
    obtain ⟨k, hk, rfl, HO2⟩ := hrel
    by_cases hlt : k < n
    · obtain ⟨b, o, rfl, hb, hc⟩ := HA.out (by rw [HN.out]; omega)
      have hk2 : k < sl.length := by rw [HN.out]; exact hlt
      obtain ⟨A', c', h1, h3⟩ := hc k hk2
      have c0 := (HO2.out.2.cell (p := ⟨b, o + k, none⟩) hb).trans h1
      have h4 := h3.keep HO2.out.2
      have hfl := HF.out sl[k] (List.getElem_mem hk2)
      have HP := Lib.hid (fun (b : World) (v : Value) (hg : Grows wr b) (hv : OwnE b wr.heap.size v sl[k]) => HO2.out.put hg HN.out hk2 (Nat.le_refl _) hv)
      obtain ⟨l, hl⟩ : ∃ l, sl[k] = l := ⟨_, rfl⟩
      rw [hl] at c0 h4 hfl HP
      have HT := Lib.hid (toLayer_any A' c' l wr hfl.1 h4)
      unfold ResE at HT
      obtain ⟨q, hq⟩ : ∃ q, l.length = q := ⟨_, rfl⟩
      rw [hq] at c0 HT
      clear hl hc h1 h3 h4 hfl hq
      go_wp2_with fail
      refine (HT.out).mono ?_
      rintro e w1 ⟨v, rfl, hv, hg1⟩
      have HO3 := Lib.hid (HO2.out.keep hg1)
      obtain ⟨v0, e0⟩ := HO3.out.cell (i := k) (by omega)
      have f0 := HO3.out.frozen k
      have HV := Lib.hid hv
      have HG1 := Lib.hid hg1
      obtain ⟨A8, n8, c8, rfl⟩ := hv.form3
      clear hg1 hv c0
      go_wp2_with fail
      go_roundw
      case rel => exact ⟨k + 1, by omega, by go_num, Lib.hid (HP.out _ _ HG1.out HV.out)⟩
      case measure => (simp [intOf]; try omega)
    · obtain rfl : k = n := by omega
      go_wp2
      go_ret
      exact ⟨rfl, HO2.out.done HN.out, HO2.out.2⟩

/-- as Tow, whatever the entries' cells hold -/
def TowQ (w : World) (g : Nat) (ns : List Nat) (vs : List Value) : Prop :=
  g < w.heap.size ∧ vs.length = ns.length ∧ (∀ i v, vs[i]? = some v → w.cell? ⟨g, i, none⟩ = some v) ∧ (∀ i v (h : i < ns.length), vs[i]? = some v → ∃ cs, OwnQ w (g + 1) v ns[i] cs) ∧ vs.Pairwise Apart
theorem Tow.q {w : World} {g : Nat} {sl : List (List Ent)} {vs : List Value} (h : Tow w g sl vs) : TowQ w g (sl.map List.length) vs :=
  ⟨h.1, by rw [List.length_map]; exact h.2.1, h.2.2.1, fun i v hi hv => by
    have hi' : i < sl.length := by simpa using hi
    rw [List.getElem_map]
    exact ⟨_, (h.2.2.2.1 i v hi' hv).row⟩, h.2.2.2.2⟩
theorem OwnQ.lt {w : World} {base n : Nat} {v : Value} {xs : List Value} (h : OwnQ w base v n xs) : ∀ k, v.ownBlock = some k → base ≤ k ∧ k < w.heap.size := World.ownsRow.lt h
theorem apart_sym {v u : Value} (h : Apart v u) : Apart u v := fun k hk e => h k e hk
/-- one row is marked: the others are as they were -/
theorem TowQ.mark {a b : World} {g : Nat} {ns : List Nat} {vs : List Value} (h : TowQ a g ns vs) {k : Nat} {v : Value} (hv : vs[k]? = some v) (ho : Only v a b) (hq : ∀ (hk : k < ns.length), ∃ cs, OwnQ b (g + 1) v ns[k] cs) : TowQ b g ns vs := by
  obtain ⟨h1, h2, h3, h4, h5⟩ := h
  have hkl : k < vs.length := by
    rcases Nat.lt_or_ge k vs.length with h | h
    · exact h
    · rw [List.getElem?_eq_none h] at hv; cases hv
  have hvb : ∀ c, v.ownBlock = some c → g + 1 ≤ c := fun c hc => by
    obtain ⟨cs, h⟩ := h4 k v (by omega) hv
    exact (h.lt c hc).1
  refine ⟨Nat.lt_of_lt_of_le h1 ho.size, h2, fun i u hu => ho.cell (h3 i u hu) (fun e => by have := hvb g e.symm; omega), fun i u hi hu => ?_, h5⟩
  by_cases e : i = k
  · subst e
    rw [hv] at hu
    injection hu with hu
    subst hu
    exact hq hi
  · obtain ⟨cs, h6⟩ := h4 i u hi hu
    have hap : Apart u v := by
      have hil : i < vs.length := by omega
      have e1 : vs[i] = u := by rw [List.getElem?_eq_getElem hil] at hu; injection hu
      have e2 : vs[k] = v := by rw [List.getElem?_eq_getElem hkl] at hv; injection hv
      rw [← e1, ← e2]
      rcases Nat.lt_or_ge i k with hlt | hge
      · exact List.pairwise_iff_getElem.1 h5 i k hil hkl hlt
      · exact apart_sym (List.pairwise_iff_getElem.1 h5 k i hkl hil (by omega))
    exact ⟨cs, h6.far ho (fun c hc e => hap c hc e)⟩

set_option maxRecDepth 100000 in
set_option maxHeartbeats 2000000 in
theorem markLayerS_any (R : World → Prop) (g c : Nat) (ns : List Nat) (vs : List Value) (w : World) (hsum : ns.sum ≤ 1048576) (hlen : ns.length ≤ 1048576) (hT : TowQ w g ns vs) (h0 : R w) (hR : ∀ a b v, v ∈ vs → R a → Only v a b → R b) :
    Calls Tryd.prog 24 #[.slice (some ⟨g, 0, none⟩) ns.length c, .int .i64 1] w fun e w' => ∃ m : Nat, e = .returned (.int .i64 (m : Int)) ∧ R w' := by
  have HT := Lib.hid hT
  have H0 := Lib.hid h0
  have HR := Lib.hid hR
  clear hT h0 hR
  obtain ⟨n, hnn⟩ : ∃ n, ns.length = n := ⟨_, rfl⟩
  rw [hnn] at hlen ⊢
  have HN := Lib.hid hnn
  clear hnn
  go_enter Tryd.func24, Tryd.ntmps24
  go_wp2
  go_loopw [1, 5] (fun m i wr => ∃ (k q : Nat), k ≤ n ∧ i = .int .i64 k ∧ m = .int .i64 (q : Int) ∧ Hid (q = 1 + 4 * (ns.take k).sum) ∧ Hid (TowQ wr g ns vs) ∧ Hid (R wr)) (fun _ i _ => n - (intOf i).toNat)
  case atStart => exact ⟨0, 1, Nat.zero_le _, rfl, rfl, by unfold Hid; simp, HT, H0⟩
  case round =>
    obtain ⟨k, q, hk, rfl, rfl, HQ, HTw, HRw⟩ := hrel
    by_cases hlt : k < n
    · have hk2 : k < ns.length := by rw [HN.out]; exact hlt
      obtain ⟨h1, h2, h3, h4, _⟩ := HTw.out
      have hkv : k < vs.length := by omega
      have hv : vs[k]? = some vs[k] := List.getElem?_eq_getElem hkv
      have hmem : vs[k] ∈ vs := List.getElem_mem hkv
      have c0 := h3 k _ hv
      obtain ⟨cs, h5⟩ := h4 k _ hk2 hv
      have hts : (ns.take (k + 1)).sum = (ns.take k).sum + ns[k] := by
        rw [List.take_succ_eq_append_getElem hk2, List.sum_append]
        simp
      have hle : (ns.take (k + 1)).sum ≤ ns.sum := by
        have h := List.take_append_drop (k + 1) ns
        have h' : ns.sum = (ns.take (k + 1)).sum + (ns.drop (k + 1)).sum := by rw [← List.sum_append, h]
        omega
      have hq := HQ.out
      have HM := Lib.hid (fun (b : World) (ho : Only vs[k] wr b) (hq : ∃ cs, OwnQ b (g + 1) vs[k] ns[k] cs) => HTw.out.mark hv ho (fun _ => hq))
      have HRR := Lib.hid (fun (b : World) (ho : Only vs[k] wr b) => HR.out wr b vs[k] hmem HRw.out ho)
      obtain ⟨v, hve⟩ : ∃ v, vs[k] = v := ⟨_, rfl⟩
      obtain ⟨p, hpe⟩ : ∃ p, ns[k] = p := ⟨_, rfl⟩
      rw [hve] at c0 h5 HM HRR
      rw [hpe] at h5 hts HM
      have HE := Lib.hid (markEntryS_row v (g + 1) p q cs wr (by omega) (by omega) h5)
      obtain ⟨Av, cv, hvf, _⟩ := h5.form
      subst hvf
      have HQ2 : Hid (q + p * 4 = 1 + 4 * (ns.take (k + 1)).sum) := by unfold Hid; omega
      clear h1 h2 h3 h4 h5 hv hmem hts hle hq hve hpe
      go_wp2_with fail
      refine (HE.out).mono ?_
      rintro e w1 ⟨rfl, hs1, hs2⟩
      have HT1 := Lib.hid (HM.out _ hs2 ⟨_, hs1⟩)
      have HR1 := Lib.hid (HRR.out _ hs2)
      clear hs1 hs2 c0
      go_wp2
      go_roundw
      case rel => exact ⟨k + 1, q + p * 4, by omega, by go_num, by first | rfl | (go_num), HQ2, HT1, HR1⟩
      case measure => (simp [intOf]; try omega)
    · go_wp2
      go_ret
      exact ⟨q, rfl, HRw.out⟩
end Go.Proofs.YtcecjdjfbgmogaaDoor
