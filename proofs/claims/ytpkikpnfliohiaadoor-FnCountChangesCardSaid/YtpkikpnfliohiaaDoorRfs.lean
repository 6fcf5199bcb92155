/-
  Rows of references: the places of layers as the specification tells them, each once, and what a flat layer has at a place. Conditions: parts of at most 1048576 bytes.
-/
import Derived.Test.YtpkikpnfliohiaaDoorFltI
namespace Go.Proofs.YtpkikpnfliohiaaDoor
open Go.RowKit

/-- the slice v owns these places -/
def OwnF (w : World) (base : Nat) (v : Value) (es : List Ent) : Prop := w.ownsRow base 49 2 v es.length (kcells es)
theorem OwnF.nil (w : World) (base : Nat) : OwnF w base (.slice none 0 0) [] := World.ownsRow_nil _ _ _ _
theorem OwnF.lt {w : World} {base : Nat} {v : Value} {es : List Ent} (h : OwnF w base v es) : ∀ k, v.ownBlock = some k → base ≤ k ∧ k < w.heap.size := World.ownsRow.lt h
theorem OwnF.far {a b : World} {base : Nat} {v : Value} {xs : List Ent} {row : Option Nat} (h : OwnF a base v xs) (hg : a.grownBy b row) (hne : ∀ k, v.ownBlock = some k → row ≠ some k) : OwnF b base v xs := by
  refine World.ownsRow.kept h hg ?_
  rcases hb : v.ownBlock with _ | k
  · exact .inl rfl
  · exact .inr (fun e => hne k hb e.symm)
theorem OwnF.keep {w w' : World} {base : Nat} {v : Value} {es : List Ent} (h : OwnF w base v es) (g : Grows w w') : OwnF w' base v es :=
  h.far (row := some w.heap.size) ⟨g.os, g.tape, g.output, g.size, fun i hi _ => g.block i hi⟩ (fun k hk e => by
    have := (h.lt k hk).2
    injection e with e
    omega)
theorem OwnF.less {w : World} {base base' : Nat} {v : Value} {xs : List Ent} (h : OwnF w base v xs) (hb : base' ≤ base) : OwnF w base' v xs := by
  refine ⟨h.1, ?_⟩
  rcases h.2 with h2 | ⟨g, cap, cur, hv, hg, hr⟩
  · exact .inl h2
  · exact .inr ⟨g, cap, cur, hv, by omega, hr⟩
/-- the places lie in memory -/
def RfsAt (w : World) (A : Option Addr) (es : List Ent) : Prop :=
  0 < es.length → ∃ b, A = some ⟨b, 0, none⟩ ∧ b < w.heap.size ∧ ∀ i (h : i < es.length), w.cell? ⟨b, i * 2, none⟩ = some (.string es[i].s) ∧ w.cell? ⟨b, i * 2 + 1, none⟩ = some (.string es[i].k)
theorem RfsAt.keep {w w' : World} {A : Option Addr} {es : List Ent} (h : RfsAt w A es) (g : Grows w w') : RfsAt w' A es := fun h0 => by
  obtain ⟨b, e, hb, hc⟩ := h h0
  exact ⟨b, e, Nat.lt_of_lt_of_le hb g.size, fun i hi => ⟨(g.cell (p := ⟨b, i * 2, none⟩) hb).trans (hc i hi).1, (g.cell (p := ⟨b, i * 2 + 1, none⟩) hb).trans (hc i hi).2⟩⟩
theorem OwnF.form {w : World} {base : Nat} {v : Value} {es : List Ent} (h : OwnF w base v es) : ∃ A c, v = .slice A es.length c ∧ RfsAt w A es := by
  rcases Nat.eq_zero_or_pos es.length with h0 | h0
  · rcases h.2 with ⟨rfl, _⟩ | ⟨g, cap, cur, rfl, _⟩
    · exact ⟨none, 0, by rw [h0], fun hh => absurd hh (by omega)⟩
    · exact ⟨_, _, rfl, fun hh => absurd hh (by omega)⟩
  · obtain ⟨g, cap, hv, hb, hlt⟩ := World.ownsRow.form h h0
    subst hv
    refine ⟨_, _, rfl, fun _ => ⟨g, rfl, hlt, fun i hi => ?_⟩⟩
    have hx := fun d (hd : d < 2) => (World.ownsRow.cellAt h (i * 2 + d) (by omega)).trans (kcells_get es i hi d hd)
    exact ⟨hx 0 (by omega), hx 1 (by omega)⟩
theorem infoRf : (Tryd.prog.info? 49).map (fun i => (i.zero, i.size, i.bytes)) = some (some (.agg #[.string ⟨#[]⟩, .string ⟨#[]⟩]), 2, 32) := by kernel_rfl
theorem appF {w : World} {ops : Array Oper} {rest : List Oper} {o : Oper} {a : Act} {Q : Exit → Act → World → Prop} (hgd : o.guard = none) (s x : Operand)
    (ho : o.op = .call { callee := .builtin .append, args := #[s, x], argTypes := #[46, 46] })
    (base : Nat) (v : Value) (K : List Ent) (hs : a.eval s = v) (hown : OwnF w base v K) (ad : Addr) (m c : Nat) (ns : List Ent) (hx : a.eval x = .slice (some ad) m c) (hm : ns.length = m) (hm0 : 0 < m)
    (hnews : ∀ j u, (kcells ns)[j]? = some u → w.cell? (ad.add j) = some u) (hK : K.length ≤ 4194304) (hm2 : m ≤ 1048576) (hbase : base ≤ w.heap.size)
    (h : ∀ v' w', Hid (OwnF w' base v' (K ++ ns)) → Hid (w.grownBy w' v.ownBlock) → Hid (Near v v' w) → wpList Tryd.prog ops Q rest (a.put o.dst v') w') : wpList Tryd.prog ops Q (o :: rest) a w := by
  obtain ⟨i0, hi, hz0, hz1, hz2⟩ := info_parts infoRf
  refine wpList_append_lies _ hgd s x 46 ho base 49 i0 (.agg #[.string ⟨#[]⟩, .string ⟨#[]⟩]) 2 32 Tryd.underlying46 hi hz0 hz1 hz2 rfl (by decide) v K.length (kcells K) hs hown ad m c (kcells ns) hx (by rw [kcells_length, hm]) hnews (kcells_one ns) hm0 (by unfold maxLen; omega) (by omega) hbase _ rfl ?_
  intro g cap w' h1 h2 h3 _
  refine h _ w' ?_ h2 (near_of h3)
  unfold Hid OwnF
  rw [List.length_append, kcells_append, hm]
  exact h1
theorem one_newsF (w : World) (e : Ent) (t : TypeId) {p : Nat} (hp : w.heap.size = p) : ∀ j u, (kcells [e])[j]? = some u → (w.alloc (.cells #[.string e.s, .string e.k] t)).cell? ((⟨p, 0, none⟩ : Addr).add j) = some u := fun j u hj => by
  subst hp
  exact World.news_of_block (heap_alloc_new w _) j u (by simpa [kcells, kcell] using hj)


theorem OwnF.empty (w : World) (base : Nat) (hb : base ≤ w.heap.size) : OwnF (w.alloc (.cells #[] 49)) base (.slice (some ⟨w.heap.size, 0, none⟩) 0 0) [] := World.ownsRow_lit w #[] 0 hb (Nat.zero_le _) rfl
/-- two places are the same -/
def sameK (a b : ByteArray) (c d : ByteArray) : Bool := (a.toList == c.toList) && (b.toList == d.toList)
theorem eqRf (a b c d : ByteArray) (w : World) : (binOp .eql 49 (.agg #[.string a, .string b]) (.agg #[.string c, .string d])).run Tryd.prog w = .ok (.bool (sameK a b c d)) w := by
  go_simp
  unfold sameK
  repeat' split
  all_goals simp_all
theorem of_same (e : Ent) (s k : ByteArray) : e.of s k = sameK e.s e.k s k := by
  rw [Bool.eq_iff_iff, of_iff]
  unfold sameK
  rw [Bool.and_eq_true, beq_iff_eq, beq_iff_eq]
  exact ⟨fun ⟨h1, h2⟩ => ⟨by rw [h1], by rw [h2]⟩, fun ⟨h1, h2⟩ => ⟨toList_inj h1, toList_inj h2⟩⟩

set_option maxRecDepth 100000 in
set_option maxHeartbeats 1000000 in
theorem hasRef_any (v : Value) (base : Nat) (K : List Ent) (s k : ByteArray) (w : World) (hn : K.length ≤ 1048576) (h1 : OwnF w base v K) :
    Calls Tryd.prog 23 #[v, .agg #[.string s, .string k]] w fun e w' => e = .returned (.bool (K.any fun y => y.of s k)) ∧ Grows w w' := by
  obtain ⟨A, c, rfl, hA⟩ := h1.form
  have HA := Lib.hid hA
  clear h1 hA
  obtain ⟨n, hnn⟩ : ∃ n, K.length = n := ⟨_, rfl⟩
  rw [hnn] at hn
  rw [hnn]
  have HN := Lib.hid hnn
  clear hnn
  go_enter Tryd.func23, Tryd.ntmps23
  go_wp2
  go_loopw [5] (fun i wr => ∃ q : Nat, q ≤ n ∧ i = .int .i64 q ∧ Hid ((K.take q).any (fun y => y.of s k) = false) ∧ Hid (Grows (w.alloc (.cells #[.string s, .string k] 49)) wr)) (fun i _ => n - (intOf i).toNat)
  case atStart => exact ⟨0, Nat.zero_le _, rfl, by unfold Hid; simp, Grows.refl _⟩
  case round =>
    obtain ⟨q, hq, rfl, HI, HG⟩ := hrel
    have b0 : wr.cell? ⟨w.heap.size, 0, none⟩ = some (.string s) := (HG.out.cell (p := ⟨w.heap.size, 0, none⟩) (by simp)).trans (by simp)
    have b1 : wr.cell? ⟨w.heap.size, 1, none⟩ = some (.string k) := (HG.out.cell (p := ⟨w.heap.size, 1, none⟩) (by simp)).trans (by simp)
    have HGw : Hid (Grows w wr) := ((Grows.refl w).alloc _).trans HG.out
    by_cases hlt : q < n
    · have hq2 : q < K.length := by rw [HN.out]; exact hlt
      obtain ⟨g, rfl, hg1, hc⟩ := HA.out (by omega)
      obtain ⟨d0, d1⟩ := hc q hq2
      have c0 := (HGw.out.cell (p := ⟨g, q * 2, none⟩) hg1).trans d0
      have c1 := (HGw.out.cell (p := ⟨g, q * 2 + 1, none⟩) hg1).trans d1
      have HT : Hid ((K.take (q + 1)).any (fun y => y.of s k) = ((K.take q).any (fun y => y.of s k) || (K[q]).of s k)) := by
        unfold Hid
        rw [List.take_succ_eq_append_getElem hq2, List.any_append]
        simp
      have HX : Hid (K[q] ∈ K) := List.getElem_mem hq2
      obtain ⟨⟨xs, xk, xo, xv⟩, hx⟩ : ∃ x, K[q] = x := ⟨_, rfl⟩
      rw [hx] at c0 c1 HT HX
      simp only at c0 c1
      have HO := Lib.hid (of_same ⟨xs, xk, xo, xv⟩ s k)
      have heq := fun w => eqRf xs xk s k w
      obtain ⟨σ, hσ⟩ : ∃ σ, sameK xs xk s k = σ := ⟨_, rfl⟩
      simp only at HO
      rw [hσ] at heq HO
      clear hx hc d0 d1 hσ
      rcases σ with _ | _
      · have HV : Hid ((K.take (q + 1)).any (fun y => y.of s k) = false) := by unfold Hid; rw [HT.out, HI.out, HO.out]; rfl
        go_wp2_with fail
        go_quiet (fail)
        go_wp2
        go_roundw
        case rel => exact ⟨q + 1, by omega, by go_num, HV, HG.out.drewN _⟩
        case measure => simp [intOf]; omega
      · have HV : Hid ((K.any fun y => y.of s k) = true) := by
          unfold Hid
          rw [List.any_eq_true]
          exact ⟨_, HX.out, HO.out⟩
        go_wp2_with fail
        go_quiet (fail)
        go_wp2
        go_ret
        exact ⟨ret_bool HV.out.symm, HGw.out.drewN _⟩
    · obtain rfl : q = n := by omega
      have HV : Hid ((K.any fun y => y.of s k) = false) := by
        have h := HI.out
        rw [List.take_of_length_le (by rw [HN.out]; exact Nat.le_refl _)] at h
        exact h
      go_wp2
      go_ret
      exact ⟨ret_bool HV.out.symm, HGw.out⟩

/-- a call's end: an entry, and whether it is there -/
def StRet (es : List Ent) (s k : ByteArray) (w : World) (e : Ending) (w' : World) : Prop := e = .returned (.tuple #[((es.find? (fun x => x.of s k)).getD Ent.zero).agg, .bool (es.find? (fun x => x.of s k)).isSome]) ∧ Grows w w'
set_option maxRecDepth 100000 in
set_option maxHeartbeats 1000000 in
theorem stateOf_any (A : Option Addr) (c : Nat) (es : List Ent) (s k : ByteArray) (w : World) (hn : es.length ≤ 1048576) (hc0 : es.length ≤ c) (hA : EntsAt w A es) :
    Calls Tryd.prog 15 #[.agg #[.slice A es.length c], .agg #[.string s, .string k]] w (StRet es s k w) := by
  have HE := Lib.hid (fun w1 (g : Grows w w1) => entryAt_any A c es s k w1 hn (hA.keep g))
  have HA := Lib.hid hA
  have hc1 := hc0
  clear hA hc0
  have G3 : Hid (Grows w (((w.alloc (.cells #[.slice A es.length c] 25)).alloc (.cells #[.string s, .string k] 49)).alloc (.cells #[.string ⟨#[]⟩, .string ⟨#[]⟩, .int .i64 0, .string ⟨#[]⟩] 44))) := (((Grows.refl w).alloc _).alloc _).alloc _
  obtain ⟨n, hnn⟩ : ∃ n, es.length = n := ⟨_, rfl⟩
  rw [hnn] at hn hc1 HE G3 ⊢
  have HN := Lib.hid hnn
  clear hnn
  rcases find_idx s k es 0 with ⟨h0, hl0⟩ | ⟨p, hp, h0, hl0⟩
  · have h0' : entIdx es s k = -1 := h0
    rw [h0'] at HE
    have HF : Hid (es.find? (fun x => x.of s k) = none) := hl0
    clear h0 hl0 h0'
    go_enter Tryd.func15, Tryd.ntmps15
    go_wp2_with fail
    refine (HE.out _ G3.out).mono ?_
    rintro e w1 ⟨rfl, rfl⟩
    go_wp2
    refine bodyPost_ret (v := .tuple #[.agg #[.string ⟨#[]⟩, .string ⟨#[]⟩, .int .i64 0, .string ⟨#[]⟩], .bool false]) (by simp [results, Tryd.results15, go_sem]) rfl ?_
    unfold StRet
    rw [HF.out]
    exact ⟨rfl, G3.out⟩
  · have h0' : entIdx es s k = (p : Int) := by unfold entIdx; rw [h0, Nat.zero_add]
    rw [h0'] at HE
    have HF : Hid (es.find? (fun x => x.of s k) = some es[p]) := hl0
    obtain ⟨b2, o2, rfl, hb2, hc2⟩ := HA.out (by rw [HN.out]; have := hp; rw [HN.out] at this; omega)
    have hat := (hc2 p hp).keep hb2 G3.out
    have hpn : p < n := by rw [← HN.out]; exact hp
    obtain ⟨⟨xs, xk, xo, xv⟩, hx⟩ : ∃ e, es[p] = e := ⟨_, rfl⟩
    rw [hx] at hat HF
    obtain ⟨d0, d1, d2, d3⟩ := hat
    simp only at d0 d1 d2 d3
    clear h0 hl0 h0' hc2 hx
    go_enter Tryd.func15, Tryd.ntmps15
    go_wp2_with fail
    refine (HE.out _ G3.out).mono ?_
    rintro e w1 ⟨rfl, rfl⟩
    go_wp2
    refine bodyPost_ret (v := .tuple #[.agg #[.string xs, .string xk, .int .i64 xo, .string xv], .bool true]) (by simp [results, Tryd.results15, go_sem]) rfl ?_
    unfold StRet
    rw [HF.out]
    exact ⟨rfl, (((Grows.refl w).alloc _).alloc _).alloc _⟩
end Go.Proofs.YtpkikpnfliohiaaDoor
