/-
  The flat layer of a stack as the program makes it: the places of a stack, each once, and Flatten. Conditions: parts of at most 1048576 bytes.
-/
import Derived.Test.YtkjoolmhcfajnaaDoorRslI
namespace Go.Proofs.YtkjoolmhcfajnaaDoor
open Go.RowKit

/-! ### rows of places -/
def kcell (e : Ent) : List Value := [.string e.s, .string e.k]
def kcells : List Ent → List Value
  | [] => []
  | e :: es => kcell e ++ kcells es
theorem kcells_length (es : List Ent) : (kcells es).length = es.length * 2 := by
  induction es with
  | nil => rfl
  | cons e es ih => simp [kcells, kcell, ih]; omega
theorem kcells_append (a b : List Ent) : kcells (a ++ b) = kcells a ++ kcells b := by
  induction a with
  | nil => rfl
  | cons y a ih => simp [kcells, ih, List.append_assoc]
theorem kcells_get (es : List Ent) : ∀ (i : Nat) (h : i < es.length) (d : Nat), d < 2 → (kcells es)[i * 2 + d]? = (kcell es[i])[d]? := by
  induction es with
  | nil => intro i h; exact absurd h (by simp)
  | cons e es ih =>
    intro i h d hd
    have hl : (kcell e).length = 2 := rfl
    cases i with
    | zero => rw [kcells, Nat.zero_mul, Nat.zero_add, List.getElem?_append_left (by rw [hl]; exact hd)]; rfl
    | succ i =>
      rw [kcells, List.getElem?_append_right (by rw [hl]; omega), hl]
      rw [show (i + 1) * 2 + d - 2 = i * 2 + d from by omega, ih i (by simpa using h) d hd]
      rfl
theorem kcells_one (es : List Ent) : ∀ u ∈ kcells es, u.oneCell' = true := by
  induction es with
  | nil => intro u hu; simp [kcells] at hu
  | cons e es ih =>
    intro u hu
    rw [kcells, List.mem_append] at hu
    rcases hu with h | h
    · simp [kcell] at h
      rcases h with rfl | rfl <;> rfl
    · exact ih u h
/-- the slice v owns these places -/
def OwnK (w : World) (base : Nat) (v : Value) (es : List Ent) : Prop := w.ownsRow base 47 2 v es.length (kcells es)
theorem OwnK.nil (w : World) (base : Nat) : OwnK w base (.slice none 0 0) [] := World.ownsRow_nil _ _ _ _
theorem OwnK.lt {w : World} {base : Nat} {v : Value} {es : List Ent} (h : OwnK w base v es) : ∀ k, v.ownBlock = some k → base ≤ k ∧ k < w.heap.size := World.ownsRow.lt h
theorem OwnK.far {a b : World} {base : Nat} {v : Value} {xs : List Ent} {row : Option Nat} (h : OwnK a base v xs) (hg : a.grownBy b row) (hne : ∀ k, v.ownBlock = some k → row ≠ some k) : OwnK b base v xs := by
  refine World.ownsRow.kept h hg ?_
  rcases hb : v.ownBlock with _ | k
  · exact .inl rfl
  · exact .inr (fun e => hne k hb e.symm)
theorem OwnK.keep {w w' : World} {base : Nat} {v : Value} {es : List Ent} (h : OwnK w base v es) (g : Grows w w') : OwnK w' base v es :=
  h.far (row := some w.heap.size) ⟨g.os, g.tape, g.output, g.size, fun i hi _ => g.block i hi⟩ (fun k hk e => by
    have := (h.lt k hk).2
    injection e with e
    omega)
theorem OwnK.less {w : World} {base base' : Nat} {v : Value} {xs : List Ent} (h : OwnK w base v xs) (hb : base' ≤ base) : OwnK w base' v xs := by
  refine ⟨h.1, ?_⟩
  rcases h.2 with h2 | ⟨g, cap, cur, hv, hg, hr⟩
  · exact .inl h2
  · exact .inr ⟨g, cap, cur, hv, by omega, hr⟩
/-- the places lie in memory -/
def PlcsAt (w : World) (A : Option Addr) (es : List Ent) : Prop :=
  0 < es.length → ∃ b, A = some ⟨b, 0, none⟩ ∧ b < w.heap.size ∧ ∀ i (h : i < es.length), w.cell? ⟨b, i * 2, none⟩ = some (.string es[i].s) ∧ w.cell? ⟨b, i * 2 + 1, none⟩ = some (.string es[i].k)
theorem PlcsAt.keep {w w' : World} {A : Option Addr} {es : List Ent} (h : PlcsAt w A es) (g : Grows w w') : PlcsAt w' A es := fun h0 => by
  obtain ⟨b, e, hb, hc⟩ := h h0
  exact ⟨b, e, Nat.lt_of_lt_of_le hb g.size, fun i hi => ⟨(g.cell (p := ⟨b, i * 2, none⟩) hb).trans (hc i hi).1, (g.cell (p := ⟨b, i * 2 + 1, none⟩) hb).trans (hc i hi).2⟩⟩
theorem OwnK.form {w : World} {base : Nat} {v : Value} {es : List Ent} (h : OwnK w base v es) : ∃ A c, v = .slice A es.length c ∧ PlcsAt w A es := by
  rcases Nat.eq_zero_or_pos es.length with h0 | h0
  · rcases h.2 with ⟨rfl, _⟩ | ⟨g, cap, cur, rfl, _⟩
    · exact ⟨none, 0, by rw [h0], fun hh => absurd hh (by omega)⟩
    · exact ⟨_, _, rfl, fun hh => absurd hh (by omega)⟩
  · obtain ⟨g, cap, hv, hb, hlt⟩ := World.ownsRow.form h h0
    subst hv
    refine ⟨_, _, rfl, fun _ => ⟨g, rfl, hlt, fun i hi => ?_⟩⟩
    have hx := fun d (hd : d < 2) => (World.ownsRow.cellAt h (i * 2 + d) (by omega)).trans (kcells_get es i hi d hd)
    exact ⟨hx 0 (by omega), hx 1 (by omega)⟩
theorem infoPlc : (Tryd.prog.info? 47).map (fun i => (i.zero, i.size, i.bytes)) = some (some (.agg #[.string ⟨#[]⟩, .string ⟨#[]⟩]), 2, 32) := by kernel_rfl
theorem appK {w : World} {ops : Array Oper} {rest : List Oper} {o : Oper} {a : Act} {Q : Exit → Act → World → Prop} (hgd : o.guard = none) (s x : Operand)
    (ho : o.op = .call { callee := .builtin .append, args := #[s, x], argTypes := #[55, 55] })
    (base : Nat) (v : Value) (K : List Ent) (hs : a.eval s = v) (hown : OwnK w base v K) (ad : Addr) (m c : Nat) (ns : List Ent) (hx : a.eval x = .slice (some ad) m c) (hm : ns.length = m) (hm0 : 0 < m)
    (hnews : ∀ j u, (kcells ns)[j]? = some u → w.cell? (ad.add j) = some u) (hK : K.length ≤ 4194304) (hm2 : m ≤ 1048576) (hbase : base ≤ w.heap.size)
    (h : ∀ v' w', Hid (OwnK w' base v' (K ++ ns)) → Hid (w.grownBy w' v.ownBlock) → Hid (Near v v' w) → wpList Tryd.prog ops Q rest (a.put o.dst v') w') : wpList Tryd.prog ops Q (o :: rest) a w := by
  obtain ⟨i0, hi, hz0, hz1, hz2⟩ := info_parts infoPlc
  refine wpList_append_lies _ hgd s x 55 ho base 47 i0 (.agg #[.string ⟨#[]⟩, .string ⟨#[]⟩]) 2 32 Tryd.underlying55 hi hz0 hz1 hz2 rfl (by decide) v K.length (kcells K) hs hown ad m c (kcells ns) hx (by rw [kcells_length, hm]) hnews (kcells_one ns) hm0 (by unfold maxLen; omega) (by omega) hbase _ rfl ?_
  intro g cap w' h1 h2 h3 _
  refine h _ w' ?_ h2 (near_of h3)
  unfold Hid OwnK
  rw [List.length_append, kcells_append, hm]
  exact h1
theorem one_newsK (w : World) (e : Ent) (t : TypeId) {p : Nat} (hp : w.heap.size = p) : ∀ j u, (kcells [e])[j]? = some u → (w.alloc (.cells #[.string e.s, .string e.k] t)).cell? ((⟨p, 0, none⟩ : Addr).add j) = some u := fun j u hj => by
  subst hp
  exact World.news_of_block (heap_alloc_new w _) j u (by simpa [kcells, kcell] using hj)

set_option maxRecDepth 100000 in
set_option maxHeartbeats 4000000 in
theorem placesOf_any (A : Option Addr) (c : Nat) (sl : List (List Ent)) (w : World) (hv : vstack sl = true) (hA : StackAt w A sl) :
    Calls Tryd.prog 26 #[.slice A sl.length c] w fun r w' => ∃ v, r = .returned v ∧ OwnK w' w.heap.size v (firstsE (allE sl)) ∧ Grows w w' := by
  have h5 := vstack_5 hv
  have HA := Lib.hid hA
  have HL := Lib.hid (vstack_all hv)
  clear hA hv
  obtain ⟨n, hnn⟩ : ∃ n, sl.length = n := ⟨_, rfl⟩
  rw [hnn] at h5 ⊢
  have HN := Lib.hid hnn
  clear hnn
  have hmm := @run_makeMap Tryd.prog
  have HM0 : Hid (MapB (w.alloc (.map #[] 0)) w.heap.size 0 []) := MapB.new w
  go_enter Tryd.func26, Tryd.ntmps26
  go_wp2
  go_loopw [3, 5] (fun v i wr => ∃ (j m : Nat) (K : List Ent), j ≤ n ∧ i = .int .i64 ((j : Int) - 1) ∧ m ≤ (n - j) * 20 ∧ K.length ≤ (n - j) * 20 ∧ Hid (K = firstsE (allE (sl.drop j))) ∧ Hid (MapB wr w.heap.size m K) ∧ Hid (OwnK wr (w.heap.size + 1) v K) ∧ Hid (Grows w wr)) (fun _ i _ => (intOf i + 1).toNat)
  case atStart => exact ⟨n, 0, [], Nat.le_refl _, rfl, by omega, by simp, by unfold Hid; rw [← HN.out, List.drop_length]; rfl, HM0.out, OwnK.nil _ _, (Grows.refl _).alloc _⟩
  case round =>
    obtain ⟨j, m, K, hj, rfl, hm, hKl, HK, HM, HO, HG⟩ := hrel
    by_cases hpos : 0 < j
    · obtain ⟨k, rfl⟩ : ∃ k, j = k + 1 := ⟨j - 1, by omega⟩
      have hz : (((k + 1 : Nat) : Int) - 1) = (k : Int) := by omega
      rw [hz]
      clear hz
      obtain ⟨b, o, rfl, hb, hc⟩ := HA.out (by rw [HN.out]; omega)
      have hk2 : k < sl.length := by rw [HN.out]; omega
      obtain ⟨A', c', h1, h2, h3⟩ := hc k hk2
      have c0 := (HG.out.cell (p := ⟨b, o + k, none⟩) hb).trans h1
      have hvl := HL.out sl[k] (List.getElem_mem hk2)
      have HTA := Lib.hid (take_allE hk2)
      obtain ⟨x, hx⟩ : ∃ x, sl[k] = x := ⟨_, rfl⟩
      rw [hx] at c0 h3 hvl HTA
      have h20 := vlayer_20 hvl
      have HVX := Lib.hid (vlayer_vent hvl)
      have HAT := Lib.hid h3
      obtain ⟨p, hp⟩ : ∃ p, x.length = p := ⟨_, rfl⟩
      have HPN := Lib.hid hp
      rw [hp] at c0 h20
      clear hc h1 h2 h3 hx hvl hp
      obtain ⟨P, hP⟩ : ∃ P, allE (sl.drop (k + 1)) = P := ⟨_, rfl⟩
      rw [hP] at HK HTA
      clear hP
      go_wp2
      go_loopw [3, 23] (fun v i wx => ∃ (q m2 : Nat) (K : List Ent), q ≤ p ∧ i = .int .i64 q ∧ m2 ≤ (n - (k + 1)) * 20 + q ∧ K.length ≤ (n - (k + 1)) * 20 + q ∧ Hid (K = firstsE (P ++ x.take q)) ∧ Hid (MapB wx w.heap.size m2 K) ∧ Hid (OwnK wx (w.heap.size + 1) v K) ∧ Hid (Grows w wx)) (fun _ i _ => p - (intOf i).toNat)
      case atStart => exact ⟨0, m, K, Nat.zero_le _, rfl, by omega, by omega, by unfold Hid; rw [List.take_zero, List.append_nil]; exact HK.out, HM.out, HO.out, HG.out⟩
      case round =>
        clear HM hm c0 HK HO HG hKl
        obtain ⟨q, m2, K, hq, rfl, hm2, hKl, HK, HM, HO, HG⟩ := hrel
        by_cases hlt : q < p
        · obtain ⟨b2, o2, rfl, hb2, hc2⟩ := HAT.out (by rw [HPN.out]; omega)
          have hq2 : q < x.length := by rw [HPN.out]; exact hlt
          have hat := (hc2 q hq2).keep hb2 HG.out
          have hve := HVX.out x[q] (List.getElem_mem hq2)
          have htk : firstsE (P ++ x.take (q + 1)) = if (K.any fun y => y.of x[q].s x[q].k) = true then K else K ++ [x[q]] := by rw [List.take_succ_eq_append_getElem hq2, ← List.append_assoc, firstsE_snoc, ← HK.out]
          obtain ⟨⟨es, ek, eo, ev⟩, he⟩ : ∃ e, x[q] = e := ⟨_, rfl⟩
          rw [he] at hat hve htk
          simp only at htk
          obtain ⟨d0, d1, d2, d3⟩ := hat
          simp only at d0 d1 d2 d3
          have hfit := ent_fits' hve
          have hs : es.size ≤ 1048576 := by have := hfit.1; simp only at this; omega
          have hk : ek.size ≤ 1048576 := by have := hfit.2.1; simp only at this; omega
          have HP := Lib.hid (fun w => placeOf_any ⟨es, ek, eo, ev⟩ w)
          unfold Ent.agg at HP
          simp only at HP
          clear hc2 hve he hfit
          go_wp2_with fail
          refine (HP.out _).mono ?_
          rintro r w2 ⟨rfl, g2⟩
          have G2 : Hid (Grows wr w2) := ((Grows.refl wr).alloc _).trans g2
          clear g2 HP d0 d1 d2 d3
          go_upto_region 10 with (fail)
          have M3 := Lib.hid (HM.out.keep (G2.out.alloc (.cells #[.string es, .string ek] 47)))
          have O3 := Lib.hid (HO.out.keep (G2.out.alloc (.cells #[.string es, .string ek] 47)))
          have G3 : Hid (Grows w (w2.alloc (.cells #[.string es, .string ek] 47))) := HG.out.trans (G2.out.alloc _)
          have hbs : w.heap.size < w2.heap.size := by have h1 := HM.out.lt; have h2 := G2.out.size; omega
          have p0 : (w2.alloc (.cells #[.string es, .string ek] 47)).cell? ⟨w2.heap.size, 0, none⟩ = some (.string es) := by simp
          have p1 : (w2.alloc (.cells #[.string es, .string ek] 47)).cell? ⟨w2.heap.size, 1, none⟩ = some (.string ek) := by simp
          have hs3 : (w2.alloc (.cells #[.string es, .string ek] 47)).heap.size = w2.heap.size + 1 := World.size_alloc _ _
          obtain ⟨w3, hw3⟩ : ∃ w3, w2.alloc (.cells #[.string es, .string ek] 47) = w3 := ⟨_, rfl⟩
          rw [hw3] at M3 O3 G3 p0 p1 hs3 ⊢
          clear hw3 HM HO
          by_cases hy : (K.any fun y => y.of es ek) = true
          · have HK2 : Hid (K = firstsE (P ++ x.take (q + 1))) := by unfold Hid; rw [htk, if_pos hy]
            have HY := Lib.hid hy
            clear htk hy
            go_wp2_with (at_lookup; refine lookB_any rfl _ _ rfl w.heap.size m2 K M3.out rfl es ek rfl hs hk ?_; rw [HY.out])
            go_roundw
            case rel => exact ⟨q + 1, m2, K, by omega, by go_num, by omega, by omega, HK2, M3, O3, G3⟩
            case measure => (simp [intOf]; try omega)
          · have hy' : (K.any fun y => y.of es ek) = false := by simpa using hy
            have HK2 : Hid (K ++ [⟨es, ek, eo, ev⟩] = firstsE (P ++ x.take (q + 1))) := by unfold Hid; rw [htk, if_neg hy]
            have HY := Lib.hid hy'
            clear htk hy hy'
            go_upto_region 12 with (first | (at_lookup; refine lookB_any rfl _ _ rfl w.heap.size m2 K M3.out rfl es ek rfl hs hk ?_; rw [HY.out]) | (at_mapUpdate; refine putB_any rfl _ _ _ rfl w.heap.size m2 K M3.out rfl ⟨es, ek, eo, ev⟩ rfl rfl ⟨hs, hk⟩ (by omega) ?_; intro w4 HM4 HG4))
            have q0 : w4.cell? ⟨w2.heap.size, 0, none⟩ = some (.string es) := HG4.out.cell p0 (fun e => by have e1 : w2.heap.size = w.heap.size := Option.some.inj e; omega)
            have q1 : w4.cell? ⟨w2.heap.size, 1, none⟩ = some (.string ek) := HG4.out.cell p1 (fun e => by have e1 : w2.heap.size = w.heap.size := Option.some.inj e; omega)
            have O4 := Lib.hid (O3.out.far HG4.out (fun k hk e => by injection e with e; have := (O3.out.lt k hk).1; omega))
            have G4 : Hid (Grows w w4) := G3.out.mark HG4.out (fun i hi => by injection hi with hi; omega)
            have hs4 := HG4.out.size
            clear p0 p1
            go_wp2_with (at_builtin; refine appK rfl _ _ rfl (w.heap.size + 1) _ K rfl (O4.out.keep ((Grows.refl w4).alloc _)) ⟨w4.heap.size, 0, none⟩ 1 1 [⟨es, ek, eo, ev⟩] rfl rfl (by omega) (one_newsK _ ⟨es, ek, eo, ev⟩ _ rfl) (by omega) (by omega) (Nat.le_trans (show w.heap.size + 1 ≤ w4.heap.size by omega) (by simp)) ?_)
            intro v' w6 HO6 HGB HNE
            have hrow := fun i hi => (O4.out.lt i hi).1
            have HM6 := Lib.hid ((HM4.out.keep ((Grows.refl w4).alloc _)).far HGB.out (fun e => by have := hrow _ e.symm; omega))
            have G6 : Hid (Grows w w6) := (G4.out.alloc _).mark HGB.out (fun i hi => by have := hrow i hi; omega)
            clear HGB HNE q0 q1
            go_wp2
            go_roundw
            case rel => exact ⟨q + 1, m2 + 1, K ++ [⟨es, ek, eo, ev⟩], by omega, by go_num, by omega, by simp; omega, HK2, HM6, HO6, G6⟩
            case measure => (simp [intOf]; try omega)
        · obtain rfl : q = p := by omega
          have HK2 : Hid (K = firstsE (allE (sl.drop k))) := by
            have h := HK.out
            rw [List.take_of_length_le (by rw [HPN.out]; exact Nat.le_refl _)] at h
            unfold Hid
            rw [HTA.out]
            exact h
          go_wp2
          go_roundw
          case rel => exact ⟨k, m2, K, by omega, by go_num, by omega, by omega, HK2, HM, HO, HG⟩
          case measure => (simp [intOf]; try omega)
    · obtain rfl : j = 0 := by omega
      have HR : Hid (K = firstsE (allE sl)) := by unfold Hid; rw [HK.out, List.drop_zero]
      go_wp2
      go_ret
      rw [← HR.out]
      exact ⟨_, rfl, HO.out.less (by omega), HG.out⟩

set_option maxRecDepth 100000 in
set_option maxHeartbeats 8000000 in
theorem implFlatten_any (A : Option Addr) (c : Nat) (sl : List (List Ent)) (w : World) (hn : sl.length ≤ 1048576) (hf : ∀ l ∈ sl, EFit l) (hA : StackAt w A sl) :
    Calls Tryd.prog 9 #[.slice A sl.length c] w (ResEB (flatL sl) (flatB sl) w) := by
  have HS := Lib.hid (fun w1 (g : Grows w w1) => implStack_any A c sl w1 hn hf (hA.keep g))
  by_cases hv : vstack sl = true
  · have HVO := Lib.hid (fun w1 (g : Grows w w1) => valuesOf_any A c sl w1 hv (hA.keep g))
    have HPO := Lib.hid (fun w1 (g : Grows w w1) => placesOf_any A c sl w1 hv (hA.keep g))
    have HPE := Lib.hid (flatL_yes hv)
    have HFR := Lib.hid (flatR_fit hv)
    have h5 := vstack_5 hv
    have hal := allE_len (vstack_all hv)
    have hfl := firstsE_len (allE sl)
    have HFT := Lib.hid (fun e (he : e ∈ firstsE (allE sl)) => ent_fits' (allE_vent (vstack_all hv) e (firstsE_mem _ e he)))
    rw [hv] at HS
    clear hf hA hv
    obtain ⟨n, hnn⟩ : ∃ n, sl.length = n := ⟨_, rfl⟩
    rw [hnn] at hn HS HVO HPO h5 hal ⊢
    clear hnn
    go_enter Tryd.func9, Tryd.ntmps9
    go_upto_region 1 with (fail)
    have XR : Hid (Box (w.alloc (.cells #[.slice none 0 0] 25)) w.heap.size (.slice none 0 0) 25) := heap_alloc_new w _
    have G0 : Hid (Grows w (w.alloc (.cells #[.slice none 0 0] 25))) := (Grows.refl w).alloc _
    obtain ⟨w0, hw0⟩ : ∃ w0, w.alloc (.cells #[.slice none 0 0] 25) = w0 := ⟨_, rfl⟩
    rw [hw0] at XR G0 ⊢
    clear hw0
    have S0 : w.heap.size < w0.heap.size := XR.out.lt
    go_wp2_with fail
    refine (HS.out _ G0.out).mono ?_
    rintro e w1 ⟨rfl, g1⟩
    have G1 : Hid (Grows w w1) := G0.out.trans g1
    have XR1 := Lib.hid (XR.out.keep g1)
    clear g1 XR
    go_wp2_with fail
    refine (HVO.out _ G1.out).mono ?_
    rintro e w2 ⟨bm, m, rfl, hm, hbm, hM, g2⟩
    have G2 : Hid (Grows w w2) := G1.out.trans g2
    have XR2 := Lib.hid (XR1.out.keep g2)
    have HM2 := Lib.hid hM
    clear g2 XR1 hM
    go_wp2_with fail
    refine (HPO.out _ G2.out).mono ?_
    rintro e w3 ⟨v, rfl, hv, g3⟩
    have G3 : Hid (Grows w w3) := G2.out.trans g3
    have XR3 := Lib.hid (XR2.out.keep g3)
    have HM3 := Lib.hid (HM2.out.keep g3)
    obtain ⟨ps, hps⟩ : ∃ ps, firstsE (allE sl) = ps := ⟨_, rfl⟩
    have HFV : Hid (flatR sl = ps.filterMap (flatOne (toldV sl))) := by unfold Hid flatR; rw [hps]
    rw [hps] at hv HFT hfl
    obtain ⟨A4, c4, rfl, hP4⟩ := hv.form
    have HP4 := Lib.hid hP4
    obtain ⟨p, hp⟩ : ∃ p, ps.length = p := ⟨_, rfl⟩
    rw [hp] at hfl ⊢
    have HPN := Lib.hid hp
    have S3 : w.heap.size < w3.heap.size := XR3.out.lt
    clear g3 XR2 HM2 hv hP4 hps hp HVO HPO HS
    go_wp2_with fail
    go_loopw [5, 19] (fun v i wr => ∃ (k : Nat) (K : List Ent), k ≤ p ∧ i = .int .i64 k ∧ Hid (K = (ps.take k).filterMap (flatOne (toldV sl))) ∧ K.length ≤ k ∧ Hid (OwnE wr w3.heap.size v K) ∧ Hid (Grows w3 wr)) (fun _ i _ => p - (intOf i).toNat)
    case atStart => exact ⟨0, [], Nat.zero_le _, rfl, by unfold Hid; rfl, Nat.zero_le _, OwnE.nil _ _, Grows.refl _⟩
    case round =>
      obtain ⟨k, K, hk, rfl, HK, hKk, HO, HG⟩ := hrel
      by_cases hlt : k < p
      · obtain ⟨b, rfl, hb, hc⟩ := HP4.out (by rw [HPN.out]; omega)
        have hk2 : k < ps.length := by rw [HPN.out]; exact hlt
        have hat := hc k hk2
        have htk : (ps.take (k + 1)).filterMap (flatOne (toldV sl)) = K ++ (flatOne (toldV sl) ps[k]).toList := by
          rw [List.take_succ_eq_append_getElem hk2, List.filterMap_append, ← HK.out]
          cases hq : flatOne (toldV sl) ps[k] <;> simp [hq]
        have hft := HFT.out ps[k] (List.getElem_mem hk2)
        obtain ⟨⟨es, ek, eo, ev⟩, he⟩ : ∃ e, ps[k] = e := ⟨_, rfl⟩
        rw [he] at hat htk hft
        simp only at hat hft
        have c0 := (HG.out.cell (p := ⟨b, k * 2, none⟩) hb).trans hat.1
        have c1 := (HG.out.cell (p := ⟨b, k * 2 + 1, none⟩) hb).trans hat.2
        have hs : es.size ≤ 1048576 := by omega
        have hkk : ek.size ≤ 1048576 := by omega
        have htk2 : (ps.take (k + 1)).filterMap (flatOne (toldV sl)) = K ++ ((toldV sl es ek).map fun v => (⟨es, ek, 0, v⟩ : Ent)).toList := htk
        have HM4 := Lib.hid ((HM3.out.keep HG.out).keep ((Grows.refl wr).alloc (.cells #[.string es, .string ek] 47)))
        clear hc hat htk hft he
        rcases hV : toldV sl es ek with _ | u
        · rw [hV] at htk2
          have HK2 : Hid (K = (ps.take (k + 1)).filterMap (flatOne (toldV sl))) := by unfold Hid; rw [htk2]; simp
          have HV := Lib.hid hV
          clear htk2 hV
          have HO2 := Lib.hid (HO.out.keep ((Grows.refl wr).alloc (.cells #[.string es, .string ek] 47)))
          have HG2 : Hid (Grows w3 (wr.alloc (.cells #[.string es, .string ek] 47))) := HG.out.alloc _
          go_wp2_with (at_lookup; refine lookV_ok rfl _ _ rfl bm m (toldV sl) HM4.out rfl es ek rfl hs hkk ?_; rw [HV.out]; simp only [Option.getD_none, Option.isSome_none])
          go_roundw
          case rel => exact ⟨k + 1, K, by omega, by go_num, HK2, by omega, HO2, HG2⟩
          case measure => (simp [intOf]; try omega)
        · rw [hV] at htk2
          have HK2 : Hid (K ++ [(⟨es, ek, 0, u⟩ : Ent)] = (ps.take (k + 1)).filterMap (flatOne (toldV sl))) := by unfold Hid; rw [htk2]; simp
          have HV := Lib.hid hV
          clear htk2 hV
          have hbs := HG.out.size
          go_upto_region 10 with (at_lookup; refine lookV_ok rfl _ _ rfl bm m (toldV sl) HM4.out rfl es ek rfl hs hkk ?_; rw [HV.out]; simp only [Option.getD_some, Option.isSome_some])
          have HO2 := Lib.hid (HO.out.keep ((Grows.refl wr).alloc (.cells #[.string es, .string ek] 47)))
          have HG2 : Hid (Grows w3 (wr.alloc (.cells #[.string es, .string ek] 47))) := HG.out.alloc _
          have q0 : (wr.alloc (.cells #[.string es, .string ek] 47)).cell? ⟨wr.heap.size, 0, none⟩ = some (.string es) := by simp
          have q1 : (wr.alloc (.cells #[.string es, .string ek] 47)).cell? ⟨wr.heap.size, 1, none⟩ = some (.string ek) := by simp
          obtain ⟨w4, hw4⟩ : ∃ w4, wr.alloc (.cells #[.string es, .string ek] 47) = w4 := ⟨_, rfl⟩
          rw [hw4] at HO2 HG2 q0 q1 ⊢
          clear hw4 c0 c1 HM4
          have hbs4 := HG2.out.size
          go_wp2_with (at_builtin; refine appEs rfl _ _ rfl w3.heap.size _ K rfl (HO2.out.keep ((Grows.refl w4).alloc _)) ⟨w4.heap.size, 0, none⟩ 1 1 [⟨es, ek, 0, u⟩] rfl rfl (by omega) (one_newsE _ ⟨es, ek, 0, u⟩ _ rfl) (by omega) (by omega) (Nat.le_trans hbs4 (by simp)) ?_)
          intro v' w6 HO6 HGB HNE
          have HG6 : Hid (Grows w3 w6) := (HG2.out.alloc _).mark HGB.out (fun k hk => (HO2.out.lt k hk).1)
          clear HGB HNE q0 q1
          go_wp2
          go_roundw
          case rel => exact ⟨k + 1, K ++ [⟨es, ek, 0, u⟩], by omega, by go_num, HK2, by simp; omega, HO6, HG6⟩
          case measure => (simp [intOf]; try omega)
      · have hkp : k = p := by omega
        have HR : Hid (K = flatR sl) := by unfold Hid; rw [HFV.out, HK.out, hkp, ← HPN.out, List.take_length]
        have hO := HO.out
        rw [HR.out] at hO
        have HCK := Lib.hid (validEntries_any _ w3.heap.size (flatR sl) wr HFR.out hO)
        unfold ChkRetE at HCK
        clear hO
        go_wp2_with fail
        refine (HCK.out).mono ?_
        rintro r w9 ⟨u, rfl, hu, g9⟩
        have G9 : Hid (Grows w w9) := (G3.out.trans HG.out).trans g9
        have XR9 := Lib.hid ((XR3.out.keep HG.out).keep g9)
        obtain ⟨A5, n5, c5, hv5⟩ := OwnE.form3 hu
        subst hv5
        have HU := Lib.hid hu
        clear g9 hu
        have h1 := XR9.out.cell
        have h2 := XR9.out.free
        obtain ⟨β, hβ⟩ : ∃ β, vlayer (flatR sl) = β := ⟨_, rfl⟩
        rw [hβ] at HPE ⊢
        clear hβ
        go_wp2
        refine bodyPost_ret (v := .tuple #[.agg #[.slice A5 n5 c5], .bool β]) (by simp [results, Tryd.results9, go_sem, h1]) rfl ?_
        rw [HPE.out.1, HPE.out.2]
        exact ⟨_, rfl, (HU.out.setOther (by omega) _).less (by omega), G9.out.setCell (Nat.le_refl _) _⟩
  · have hv' : vstack sl = false := by simpa using hv
    have HPE := Lib.hid (flatL_no hv')
    rw [hv'] at HS
    clear hf hA hv hv'
    go_enter Tryd.func9, Tryd.ntmps9
    go_upto_region 1 with (fail)
    have XR : Hid (Box (w.alloc (.cells #[.slice none 0 0] 25)) w.heap.size (.slice none 0 0) 25) := heap_alloc_new w _
    have G0 : Hid (Grows w (w.alloc (.cells #[.slice none 0 0] 25))) := (Grows.refl w).alloc _
    obtain ⟨w0, hw0⟩ : ∃ w0, w.alloc (.cells #[.slice none 0 0] 25) = w0 := ⟨_, rfl⟩
    rw [hw0] at XR G0 ⊢
    clear hw0
    go_wp2_with fail
    refine (HS.out _ G0.out).mono ?_
    rintro e w1 ⟨rfl, g1⟩
    have G1 : Hid (Grows w w1) := G0.out.trans g1
    have XR1 := Lib.hid (XR.out.keep g1)
    clear g1 XR
    have h1 := XR1.out.cell
    have h2 := XR1.out.free
    go_wp2
    refine bodyPost_ret (v := .tuple #[.agg #[.slice none 0 0], .bool false]) (by simp [results, Tryd.results9, go_sem, h1]) rfl ?_
    rw [HPE.out.1, HPE.out.2]
    exact ⟨_, rfl, OwnE.nil _ _, G1.out.setCell (Nat.le_refl _) _⟩
end Go.Proofs.YtkjoolmhcfajnaaDoor
