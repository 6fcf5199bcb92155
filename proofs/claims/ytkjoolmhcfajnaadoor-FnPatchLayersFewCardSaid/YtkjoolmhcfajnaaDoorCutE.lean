/-
  An entry cut out of a layer: CutEntry of both sides. Conditions: parts of at most 1048576 bytes.
-/
import Derived.Test.YtkjoolmhcfajnaaDoorKeep
import Derived.Laws.AppendOwnNone
import Derived.IntWalk
namespace Go.Proofs.YtkjoolmhcfajnaaDoor
open Go.RowKit

theorem EntAt.cells {w : World} {b o : Nat} {e : Ent} (h : EntAt w b o e) : ∀ j u, (ecell e)[j]? = some u → w.cell? ((⟨b, o, none⟩ : Addr).add j) = some u := by
  obtain ⟨h0, h1, h2, h3⟩ := h
  intro j u hj
  match j, hj with
  | 0, hj => simp [ecell] at hj; subst hj; simpa [Addr.add] using h0
  | 1, hj => simp [ecell] at hj; subst hj; simpa [Addr.add] using h1
  | 2, hj => simp [ecell] at hj; subst hj; simpa [Addr.add] using h2
  | 3, hj => simp [ecell] at hj; subst hj; simpa [Addr.add] using h3
  | j + 4, hj => simp [ecell] at hj
theorem EntsAt.cells {w : World} {b o : Nat} {ls : List Ent} (h : ∀ i (h : i < ls.length), EntAt w b (o + i * 4) ls[i]) : ∀ j u, (ecells ls)[j]? = some u → w.cell? ((⟨b, o, none⟩ : Addr).add j) = some u := by
  intro j u hj
  have hlt : j < ls.length * 4 := by
    rw [← ecells_length]
    rcases Nat.lt_or_ge j (ecells ls).length with h | h
    · exact h
    · rw [List.getElem?_eq_none h] at hj; cases hj
  have hi : j / 4 < ls.length := by omega
  have hd : j % 4 < 4 := Nat.mod_lt _ (by omega)
  have hjj : j / 4 * 4 + j % 4 = j := by omega
  have hg := ecells_get ls (j / 4) hi (j % 4) hd
  rw [hjj, hj] at hg
  have := (h (j / 4) hi).cells (j % 4) u hg.symm
  have e : (⟨b, o + j / 4 * 4, none⟩ : Addr).add (j % 4) = (⟨b, o, none⟩ : Addr).add j := by
    have ha : ∀ (x y z : Nat), (⟨x, y, none⟩ : Addr).add z = ⟨x, y + z, none⟩ := fun x y z => by unfold Addr.add; split <;> simp_all
    rw [ha, ha, show o + j / 4 * 4 + j % 4 = o + j from by omega]
  rw [← e]
  exact this
set_option maxRecDepth 100000 in
/-- all entries of a slice put behind a row of the call's own -/
theorem appAllE {w : World} {ops : Array Oper} {rest : List Oper} {o : Oper} {a : Act} {Q : Exit → Act → World → Prop} (hgd : o.guard = none) (s x : Operand)
    (ho : o.op = .call { callee := .builtin .append, args := #[s, x], argTypes := #[23, 23] })
    (base : Nat) (v : Value) (K : List Ent) (hs : a.eval s = v) (hown : OwnE w base v K) (ad : Addr) (m c : Nat) (ns : List Ent) (hx : a.eval x = .slice (some ad) m c) (hm : ns.length = m)
    (hA : EntsAt w (some ad) ns) (hK : K.length ≤ 4194304) (hm2 : m ≤ 1048576) (hbase : base ≤ w.heap.size)
    (h : ∀ v' w', Hid (OwnE w' base v' (K ++ ns)) → Hid (w.grownBy w' v.ownBlock) → wpList Tryd.prog ops Q rest (a.put o.dst v') w') : wpList Tryd.prog ops Q (o :: rest) a w := by
  obtain ⟨i0, hi, hz0, hz1, hz2⟩ := info_parts infoEntry
  refine wpList_append_own _ hgd s x 23 ho base 33 i0 Ent.zero.agg 4 56 Tryd.underlying23 hi hz0 hz1 hz2 rfl (by decide) v K.length (ecells K) hs hown ad m c (ecells ns) hx (by rw [ecells_length, hm]) ?_ (ecells_one ns) (by unfold maxLen; omega) (by omega) hbase ?_
  · intro j u hj
    have hpos : 0 < ns.length := by
      rcases Nat.eq_zero_or_pos ns.length with h | h
      · rw [List.eq_nil_of_length_eq_zero h] at hj; simp [ecells] at hj
      · exact h
    obtain ⟨b, oo, e, hb, hc⟩ := hA hpos
    injection e with e
    subst e
    exact EntsAt.cells hc j u hj
  · intro v' w' h1 h2 _
    refine h v' w' ?_ h2
    unfold Hid OwnE
    rw [List.length_append, ecells_append, hm]
    exact h1
/-- a call's end: it returns entries in a row of the call's own -/
def RetE (es : List Ent) (w : World) (e : Ending) (w' : World) : Prop := ∃ v, e = .returned v ∧ OwnE w' w.heap.size v es ∧ Grows w w'

set_option maxRecDepth 100000 in
set_option maxHeartbeats 2000000 in
theorem specCopyE_any (ad : Addr) (c : Nat) (ls : List Ent) (w : World) (hn : ls.length ≤ 1048576) (hA : EntsAt w (some ad) ls) :
    Calls Tryd.prog 41 #[.slice (some ad) ls.length c] w (RetE ls w) := by
  have HOE := Lib.hid (OwnE.empty w w.heap.size (Nat.le_refl _))
  have HA := Lib.hid (hA.keep ((Grows.refl w).alloc (.cells #[] 33)))
  obtain ⟨n, hnn⟩ : ∃ n, ls.length = n := ⟨_, rfl⟩
  have hn2 : n ≤ 1048576 := by omega
  rw [hnn]
  have HNN := Lib.hid hnn
  clear hA hnn hn
  go_enter Tryd.func41, Tryd.ntmps41
  go_wp2_with (at_builtin; refine appAllE rfl _ _ rfl w.heap.size _ [] rfl HOE.out ad n c ls rfl HNN.out HA.out (by simp) hn2 (by simp) ?_)
  intro v' w2 h1 h2
  have HG2 : Hid (Grows w w2) := ((Grows.refl w).alloc _).mark h2.out (fun k hk => by have h' : some w.heap.size = some k := hk; injection h' with h'; omega)
  have HO2 : Hid (OwnE w2 w.heap.size v' ls) := h1.out
  clear h1 h2
  go_wp2
  go_ret
  exact ⟨_, rfl, HO2.out, HG2.out⟩

theorem nePlace (a b c d : ByteArray) (w : World) : (binOp .neq 47 (.agg #[.string a, .string b]) (.agg #[.string c, .string d])).run Tryd.prog w = .ok (.bool (!((a.toList == c.toList) && (b.toList == d.toList)))) w := by
  go_simp
  repeat' split
  all_goals simp_all

set_option maxRecDepth 100000 in
set_option maxHeartbeats 2000000 in
theorem cutFn_any (e : Ent) (s k : ByteArray) (b : Nat) (w : World) (hc : w.cell? ⟨b, 0, none⟩ = some (.string s)) (hd : w.cell? ⟨b, 1, none⟩ = some (.string k)) (hb : b < w.heap.size) :
    Calls Tryd.prog 21 #[e.agg, .pointer (some ⟨b, 0, none⟩)] w fun r w' => r = .returned (.bool (notAt s k e)) ∧ Grows w w' := by
  have HP := Lib.hid (fun w => placeOf_any e w)
  have HV : Hid (notAt s k e = !((e.s.toList == s.toList) && (e.k.toList == k.toList))) := rfl
  have hne := fun w => nePlace e.s e.k s k w
  unfold Ent.agg at HP ⊢
  obtain ⟨r, hr⟩ : ∃ r, (!((e.s.toList == s.toList) && (e.k.toList == k.toList))) = r := ⟨_, rfl⟩
  rw [hr] at hne HV
  clear hr
  go_enter Tryd.func21, Tryd.ntmps21
  go_wp2_with fail
  have e0 : (w.alloc (.cells #[.string e.s, .string e.k, .int .i64 e.op, .string e.v] 33)).cell? ⟨w.heap.size, 0, none⟩ = some (.string e.s) := by simp
  have e1 : (w.alloc (.cells #[.string e.s, .string e.k, .int .i64 e.op, .string e.v] 33)).cell? ⟨w.heap.size, 1, none⟩ = some (.string e.k) := by simp
  have e2 : (w.alloc (.cells #[.string e.s, .string e.k, .int .i64 e.op, .string e.v] 33)).cell? ⟨w.heap.size, 2, none⟩ = some (.int .i64 e.op) := by simp
  have e3 : (w.alloc (.cells #[.string e.s, .string e.k, .int .i64 e.op, .string e.v] 33)).cell? ⟨w.heap.size, 3, none⟩ = some (.string e.v) := by simp
  have g0 : (w.alloc (.cells #[.string e.s, .string e.k, .int .i64 e.op, .string e.v] 33)).cell? ⟨b, 0, none⟩ = some (.string s) := (((Grows.refl w).alloc _).cell (p := ⟨b, 0, none⟩) hb).trans hc
  have g1 : (w.alloc (.cells #[.string e.s, .string e.k, .int .i64 e.op, .string e.v] 33)).cell? ⟨b, 1, none⟩ = some (.string k) := (((Grows.refl w).alloc _).cell (p := ⟨b, 1, none⟩) hb).trans hd
  clear hc hd
  refine wp_region_M 3 (CellsAre [(⟨w.heap.size, 0, none⟩, .string e.s), (⟨w.heap.size, 1, none⟩, .string e.k), (⟨w.heap.size, 2, none⟩, .int .i64 e.op), (⟨w.heap.size, 3, none⟩, .string e.v), (⟨b, 0, none⟩, .string s), (⟨b, 1, none⟩, .string k)]) (by kernel_rfl) (by kernel_rfl) ⟨e0, e1, e2, e3, g0, g1, trivial⟩ (fun hB hS => ?_)
  refine wpAnyM_take (i := 0) (v := ?va0) hB rfl (by kernel_rfl) (fun _ _ _ h => h) (by rfl) ?ya0 hS ?na0
  case ya0 => (intro w9 hSw; obtain ⟨s1, s2, s3, s4, s5, s6, _⟩ := hSw; go_simp; try with_reducible rfl)
  refine wpAnyM_take (i := 2) (v := ?va2) hB rfl (by kernel_rfl) (fun _ _ _ h => h) (by rfl) ?ya2 hS ?na2
  case ya2 => (intro w9 hSw; obtain ⟨s1, s2, s3, s4, s5, s6, _⟩ := hSw; go_simp; try with_reducible rfl)
  clear e0 e1 e2 e3 g0 g1
  have HS := Lib.hid hS
  clear hS
  refine wpAnyM_one (i := 1) rfl (by kernel_rfl) rfl ?_
  go_wp2_with fail
  refine (HP.out _).mono ?_
  rintro e9 w1 ⟨rfl, g1⟩
  have HG1 : Hid (Grows w w1) := ((((Grows.refl _).alloc _).drew)).trans g1
  have HS1 := Lib.hid (CellsAre.keep HS.out g1)
  clear g1 HS
  go_wp2_with fail
  refine ⟨HS1.out, ?_⟩
  refine wpAnyM_tail (by kernel_rfl) ?_
  clear HS1 hB
  go_wp2
  go_ret
  exact ⟨ret_bool HV.out.symm, HG1.out⟩

/-- a place in two cells -/
def Box2 (w : World) (b : Nat) (s k : ByteArray) : Prop := w.cell? ⟨b, 0, none⟩ = some (.string s) ∧ w.cell? ⟨b, 1, none⟩ = some (.string k)
theorem Box2.new (w : World) (s k : ByteArray) : Box2 (w.alloc (.cells #[.string s, .string k] 47)) w.heap.size s k := ⟨by simp, by simp⟩
theorem cutB_no {es : List Ent} {s k : ByteArray} (h : vlayer es = false) : cutB es s k = false ∧ cutL es s k = [] := by
  have h1 : cutB es s k = false := by unfold cutB; rw [h]; rfl
  exact ⟨h1, by unfold cutL; rw [h1]; simp⟩
theorem cutB_none {es : List Ent} {s k : ByteArray} (h : es.any (fun x => x.of s k) = false) : cutB es s k = false ∧ cutL es s k = [] := by
  have h1 : cutB es s k = false := by unfold cutB; rw [h]; simp
  exact ⟨h1, by unfold cutL; rw [h1]; simp⟩
theorem cutB_yes {es : List Ent} {s k : ByteArray} (h0 : vlayer es = true) (h : es.any (fun x => x.of s k) = true) : cutB es s k = true ∧ cutL es s k = es.filter (notAt s k) := by
  have h1 : cutB es s k = true := by unfold cutB; rw [h0, h]; rfl
  exact ⟨h1, by unfold cutL; rw [h1]; simp⟩

set_option maxRecDepth 100000 in
set_option maxHeartbeats 2000000 in
theorem implCut_any (A : Option Addr) (c : Nat) (es : List Ent) (s key : ByteArray) (w : World) (hf : EFit es) (hA : EntsAt w A es) :
    Calls Tryd.prog 8 #[.agg #[.slice A es.length c], .string s, .string key] w (ResEB (cutL es s key) (cutB es s key) w) := by
  have HK := Lib.hid (fun w1 (g : Grows w w1) (b : Nat) (hb : b < w1.heap.size) (hc : w1.cell? ⟨b, 0, none⟩ = some (.string s)) (hd : w1.cell? ⟨b, 1, none⟩ = some (.string key)) =>
    keepEntries_cut (.pointer (some ⟨b, 0, none⟩)) (notAt s key) A c es w1 hf (hA.keep g) (fun _ e _ w2 g2 => cutFn_any e s key b w2 ((g2.cell (p := ⟨b, 0, none⟩) hb).trans hc) ((g2.cell (p := ⟨b, 1, none⟩) hb).trans hd) (Nat.lt_of_lt_of_le hb g2.size)))
  have HI := Lib.hid (fun w1 (g : Grows w w1) => implLayer_any A c es w1 hf (hA.keep g))
  have hmf : ∀ (fn : Fn) (first cap : Array Value) (w : World), (Instr.makeFunc fn first cap).run Tryd.prog w = .ok (.func fn first cap) w := fun _ _ _ _ => rfl
  have hkl := keepE_le es (notAt s key)
  have hn := hf.1
  clear hA hf
  unfold ResE at HK
  by_cases hv : vlayer es = true
  · rw [hv] at HI
    have hke := keepE_yes (p := notAt s key) hv
    by_cases ha : es.any (fun x => x.of s key) = true
    · have HE := Lib.hid (cutB_yes hv ha)
      have hlt : (keepE es (notAt s key)).length ≠ es.length := by
        rw [hke]
        intro h
        rw [cutLen.1 h] at ha
        cases ha
      rw [hke] at HK hkl hlt
      clear hke hv ha
      go_enter Tryd.func8, Tryd.ntmps8
      go_wp2_with fail
      have hPB : Box2 (((w.alloc (lbox A es.length c)).alloc (.cells #[.slice none 0 0] 25)).alloc (.cells #[.string s, .string key] 47)) (w.heap.size + 1 + 1) s key := by
        have h := Box2.new ((w.alloc (lbox A es.length c)).alloc (.cells #[.slice none 0 0] 25)) s key
        simp only [World.size_alloc] at h
        exact h
      refine Calls.mono (HK.out _ ?ggb (w.heap.size + 1 + 1) ?hbb ?hcb ?hdb) ?_
      case ggb => exact (((Grows.refl _).alloc _).alloc _).alloc _
      case hbb => simp; try omega
      case hcb => exact hPB.1
      case hdb => exact hPB.2
      rintro e w1 ⟨v, rfl, hv, g1⟩
      have HG1 : Hid (Grows w w1) := ((((Grows.refl _).alloc _).alloc _).alloc _).trans g1
      have HX1 : Hid (Grows ((w.alloc (lbox A es.length c)).alloc (.cells #[.slice none 0 0] 25)) w1) := ((Grows.refl _).alloc _).trans g1
      have HO1 : Hid (OwnE w1 (w.heap.size + 1 + 1 + 1) v (es.filter (notAt s key))) := by have h := hv; simp only [World.size_alloc] at h; exact h
      have hc1 : w1.cell? ⟨w.heap.size, 0, none⟩ = some (.slice A es.length c) := (HX1.out.cell (p := ⟨w.heap.size, 0, none⟩) (by simp; omega)).trans (by simp [lbox])
      have hs1 : w.heap.size + 1 + 1 + 1 ≤ w1.heap.size := Nat.le_trans (by simp) g1.size
      have hs0 : w.heap.size < w1.heap.size := by omega
      obtain ⟨A', n', c', hv'⟩ := hv.form3
      subst hv'
      clear g1 hv hPB
      go_wp2_with fail
      refine (HI.out _ (HG1.out.alloc _)).mono ?_
      rintro e w2 ⟨rfl, g2⟩
      have HG2 : Hid (Grows w w2) := (HG1.out.alloc _).trans g2
      have HO2 : Hid (OwnE w2 (w.heap.size + 1 + 1 + 1) (.slice A' n' c') (es.filter (notAt s key))) := (HO1.out.keep ((Grows.refl _).alloc _)).keep g2
      have HX2 : Hid (Grows ((w.alloc (lbox A es.length c)).alloc (.cells #[.slice none 0 0] 25)) w2) := (HX1.out.alloc _).trans g2
      have d0 : w2.cell? ⟨w.heap.size, 0, none⟩ = some (.slice A es.length c) := (HX2.out.cell (p := ⟨w.heap.size, 0, none⟩) (by simp; omega)).trans (by simp [lbox])
      have h1 : w2.cell? ⟨w.heap.size + 1, 0, none⟩ = some (.slice none 0 0) := (HX2.out.cell (p := ⟨w.heap.size + 1, 0, none⟩) (by simp)).trans (by simp)
      have h2 : w2.frozen? ⟨w.heap.size + 1, 0, none⟩ = false := (HX2.out.frozen (p := ⟨w.heap.size + 1, 0, none⟩) (by simp)).trans (by simp)
      have d1 : w2.cell? ⟨w1.heap.size, 0, none⟩ = some (.slice A' n' c') := (g2.cell (p := ⟨w1.heap.size, 0, none⟩) (by simp)).trans (by simp)
      have hs2 : w1.heap.size < w2.heap.size := Nat.lt_of_lt_of_le (by simp) g2.size
      clear g2 hc1 HX1 HX2
      obtain ⟨x, y, he, _⟩ := HO2.out.form
      injection he with he1 he2 he3
      subst he1; subst he3
      have hn' : n' = (es.filter (notAt s key)).length := he2
      clear he2
      obtain ⟨m, hm⟩ : ∃ m, n' = m := ⟨_, rfl⟩
      subst hm
      obtain ⟨n, hnn⟩ : ∃ n, es.length = n := ⟨_, rfl⟩
      obtain ⟨m, hmm⟩ : ∃ m, n' = m := ⟨_, rfl⟩
      rw [← hn'] at hlt hkl
      clear hn'
      rw [hnn] at hlt hkl hn d0 ⊢
      rw [hmm] at hlt hkl d1 HO2
      rw [hmm]
      clear hnn hmm
      have hlt2 : m < n := by omega
      go_wp2
      refine bodyPost_ret (v := .tuple #[.agg #[.slice A' m c'], .bool true]) (by simp [results, Tryd.results8, go_sem, h1]) rfl ?_
      rw [HE.out.1, HE.out.2]
      exact ⟨_, rfl, ((HO2.out.setOther (by omega) _).less (by omega)), HG2.out.setCell (by simp) _⟩
    · have ha' : es.any (fun x => x.of s key) = false := by simpa using ha
      have HE := Lib.hid (cutB_none ha')
      have hlt : (keepE es (notAt s key)).length = es.length := by rw [hke]; exact cutLen.2 ha'
      rw [hke] at HK hkl hlt
      clear hke hv ha ha'
      go_enter Tryd.func8, Tryd.ntmps8
      go_wp2_with fail
      have hPB : Box2 (((w.alloc (lbox A es.length c)).alloc (.cells #[.slice none 0 0] 25)).alloc (.cells #[.string s, .string key] 47)) (w.heap.size + 1 + 1) s key := by
        have h := Box2.new ((w.alloc (lbox A es.length c)).alloc (.cells #[.slice none 0 0] 25)) s key
        simp only [World.size_alloc] at h
        exact h
      refine Calls.mono (HK.out _ ?ggc (w.heap.size + 1 + 1) ?hbc ?hcc ?hdc) ?_
      case ggc => exact (((Grows.refl _).alloc _).alloc _).alloc _
      case hbc => simp; try omega
      case hcc => exact hPB.1
      case hdc => exact hPB.2
      rintro e w1 ⟨v, rfl, hv, g1⟩
      have HG1 : Hid (Grows w w1) := ((((Grows.refl _).alloc _).alloc _).alloc _).trans g1
      have HX1 : Hid (Grows ((w.alloc (lbox A es.length c)).alloc (.cells #[.slice none 0 0] 25)) w1) := ((Grows.refl _).alloc _).trans g1
      have HO1 : Hid (OwnE w1 (w.heap.size + 1 + 1 + 1) v (es.filter (notAt s key))) := by have h := hv; simp only [World.size_alloc] at h; exact h
      have hc1 : w1.cell? ⟨w.heap.size, 0, none⟩ = some (.slice A es.length c) := (HX1.out.cell (p := ⟨w.heap.size, 0, none⟩) (by simp; omega)).trans (by simp [lbox])
      have hs1 : w.heap.size + 1 + 1 + 1 ≤ w1.heap.size := Nat.le_trans (by simp) g1.size
      have hs0 : w.heap.size < w1.heap.size := by omega
      obtain ⟨A', n', c', hv'⟩ := hv.form3
      subst hv'
      clear g1 hv hPB
      go_wp2_with fail
      refine (HI.out _ (HG1.out.alloc _)).mono ?_
      rintro e w2 ⟨rfl, g2⟩
      have HG2 : Hid (Grows w w2) := (HG1.out.alloc _).trans g2
      have HO2 : Hid (OwnE w2 (w.heap.size + 1 + 1 + 1) (.slice A' n' c') (es.filter (notAt s key))) := (HO1.out.keep ((Grows.refl _).alloc _)).keep g2
      have HX2 : Hid (Grows ((w.alloc (lbox A es.length c)).alloc (.cells #[.slice none 0 0] 25)) w2) := (HX1.out.alloc _).trans g2
      have d0 : w2.cell? ⟨w.heap.size, 0, none⟩ = some (.slice A es.length c) := (HX2.out.cell (p := ⟨w.heap.size, 0, none⟩) (by simp; omega)).trans (by simp [lbox])
      have h1 : w2.cell? ⟨w.heap.size + 1, 0, none⟩ = some (.slice none 0 0) := (HX2.out.cell (p := ⟨w.heap.size + 1, 0, none⟩) (by simp)).trans (by simp)
      have h2 : w2.frozen? ⟨w.heap.size + 1, 0, none⟩ = false := (HX2.out.frozen (p := ⟨w.heap.size + 1, 0, none⟩) (by simp)).trans (by simp)
      have d1 : w2.cell? ⟨w1.heap.size, 0, none⟩ = some (.slice A' n' c') := (g2.cell (p := ⟨w1.heap.size, 0, none⟩) (by simp)).trans (by simp)
      have hs2 : w1.heap.size < w2.heap.size := Nat.lt_of_lt_of_le (by simp) g2.size
      clear g2 hc1 HX1 HX2
      obtain ⟨x, y, he, _⟩ := HO2.out.form
      injection he with he1 he2 he3
      subst he1; subst he3
      have hn' : n' = (es.filter (notAt s key)).length := he2
      clear he2
      obtain ⟨m, hm⟩ : ∃ m, n' = m := ⟨_, rfl⟩
      subst hm
      obtain ⟨n, hnn⟩ : ∃ n, es.length = n := ⟨_, rfl⟩
      obtain ⟨m, hmm⟩ : ∃ m, n' = m := ⟨_, rfl⟩
      rw [← hn'] at hlt hkl
      clear hn'
      rw [hnn] at hlt hkl hn d0 ⊢
      rw [hmm] at hlt hkl d1 HO2
      rw [hmm]
      clear hnn hmm
      have hlt2 : m = n := by omega
      subst hlt2
      go_wp2
      refine bodyPost_ret (v := .tuple #[.agg #[.slice none 0 0], .bool false]) (by simp [results, Tryd.results8, go_sem, h1]) rfl ?_
      rw [HE.out.1, HE.out.2]
      exact ⟨_, rfl, OwnE.nil _ _, HG2.out.setCell (by simp) _⟩
  · have hv' : vlayer es = false := by simpa using hv
    rw [hv'] at HI
    have HE := Lib.hid (cutB_no (s := s) (k := key) hv')
    have hke := keepE_no (p := notAt s key) hv'
    rw [hke] at HK hkl
    clear hke hv hv'
    go_enter Tryd.func8, Tryd.ntmps8
    go_wp2_with fail
    have hPB : Box2 (((w.alloc (lbox A es.length c)).alloc (.cells #[.slice none 0 0] 25)).alloc (.cells #[.string s, .string key] 47)) (w.heap.size + 1 + 1) s key := by
      have h := Box2.new ((w.alloc (lbox A es.length c)).alloc (.cells #[.slice none 0 0] 25)) s key
      simp only [World.size_alloc] at h
      exact h
    refine Calls.mono (HK.out _ ?ggd (w.heap.size + 1 + 1) ?hbd ?hcd ?hdd) ?_
    case ggd => exact (((Grows.refl _).alloc _).alloc _).alloc _
    case hbd => simp; try omega
    case hcd => exact hPB.1
    case hdd => exact hPB.2
    rintro e w1 ⟨v, rfl, hv, g1⟩
    have HG1 : Hid (Grows w w1) := ((((Grows.refl _).alloc _).alloc _).alloc _).trans g1
    have HX1 : Hid (Grows ((w.alloc (lbox A es.length c)).alloc (.cells #[.slice none 0 0] 25)) w1) := ((Grows.refl _).alloc _).trans g1
    have HO1 : Hid (OwnE w1 (w.heap.size + 1 + 1 + 1) v []) := by have h := hv; simp only [World.size_alloc] at h; exact h
    have hc1 : w1.cell? ⟨w.heap.size, 0, none⟩ = some (.slice A es.length c) := (HX1.out.cell (p := ⟨w.heap.size, 0, none⟩) (by simp; omega)).trans (by simp [lbox])
    have hs1 : w.heap.size + 1 + 1 + 1 ≤ w1.heap.size := Nat.le_trans (by simp) g1.size
    have hs0 : w.heap.size < w1.heap.size := by omega
    obtain ⟨A', n', c', hv'⟩ := hv.form3
    subst hv'
    clear g1 hv hPB
    go_wp2_with fail
    refine (HI.out _ (HG1.out.alloc _)).mono ?_
    rintro e w2 ⟨rfl, g2⟩
    have HG2 : Hid (Grows w w2) := (HG1.out.alloc _).trans g2
    have HO2 : Hid (OwnE w2 (w.heap.size + 1 + 1 + 1) (.slice A' n' c') []) := (HO1.out.keep ((Grows.refl _).alloc _)).keep g2
    have HX2 : Hid (Grows ((w.alloc (lbox A es.length c)).alloc (.cells #[.slice none 0 0] 25)) w2) := (HX1.out.alloc _).trans g2
    have d0 : w2.cell? ⟨w.heap.size, 0, none⟩ = some (.slice A es.length c) := (HX2.out.cell (p := ⟨w.heap.size, 0, none⟩) (by simp; omega)).trans (by simp [lbox])
    have h1 : w2.cell? ⟨w.heap.size + 1, 0, none⟩ = some (.slice none 0 0) := (HX2.out.cell (p := ⟨w.heap.size + 1, 0, none⟩) (by simp)).trans (by simp)
    have h2 : w2.frozen? ⟨w.heap.size + 1, 0, none⟩ = false := (HX2.out.frozen (p := ⟨w.heap.size + 1, 0, none⟩) (by simp)).trans (by simp)
    have d1 : w2.cell? ⟨w1.heap.size, 0, none⟩ = some (.slice A' n' c') := (g2.cell (p := ⟨w1.heap.size, 0, none⟩) (by simp)).trans (by simp)
    have hs2 : w1.heap.size < w2.heap.size := Nat.lt_of_lt_of_le (by simp) g2.size
    clear g2 hc1 HX1 HX2
    go_wp2
    refine bodyPost_ret (v := .tuple #[.agg #[.slice none 0 0], .bool false]) (by simp [results, Tryd.results8, go_sem, h1]) rfl ?_
    rw [HE.out.1, HE.out.2]
    exact ⟨_, rfl, OwnE.nil _ _, HG2.out.setCell (by simp) _⟩
end Go.Proofs.YtkjoolmhcfajnaaDoor
