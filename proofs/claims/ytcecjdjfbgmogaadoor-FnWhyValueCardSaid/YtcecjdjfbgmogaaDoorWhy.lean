/-
  WhyValue of both sides. Conditions: parts of at most 1048576 bytes.
-/
import Derived.Test.YtcecjdjfbgmogaaDoorInts
import Derived.Test.YtcecjdjfbgmogaaDoorRslI
namespace Go.Proofs.YtcecjdjfbgmogaaDoor
open Go.RowKit

theorem ints_one (ns : List Int) : ∀ u ∈ ints' ns, u.cells = #[u] ∨ True := fun _ _ => .inr trivial
theorem one_newsI (w : World) (x : Int) (t : TypeId) {p : Nat} (hp : w.heap.size = p) : ∀ j u, (ints' [x])[j]? = some u → (w.alloc (.cells #[.int .i64 x] t)).cell? ((⟨p, 0, none⟩ : Addr).add j) = some u := fun j u hj => by
  subst hp
  exact World.news_of_block (heap_alloc_new w _) j u (by simpa [ints'] using hj)
/-- one more number: append to a row of the call's own -/
theorem appI {w : World} {ops : Array Oper} {rest : List Oper} {o : Oper} {a : Act} {Q : Exit → Act → World → Prop} (hgd : o.guard = none) (s x : Operand)
    (ho : o.op = .call { callee := .builtin .append, args := #[s, x], argTypes := #[38, 38] })
    (base : Nat) (v : Value) (K : List Int) (hs : a.eval s = v) (hown : OwnI w base v K) (ad : Addr) (m c : Nat) (ns : List Int) (hx : a.eval x = .slice (some ad) m c) (hm : ns.length = m) (hm0 : 0 < m)
    (hnews : ∀ j u, (ints' ns)[j]? = some u → w.cell? (ad.add j) = some u) (hK : K.length ≤ 4194304) (hm2 : m ≤ 1048576) (hbase : base ≤ w.heap.size)
    (h : ∀ v' w', Hid (OwnI w' base v' (K ++ ns)) → Hid (w.grownBy w' v.ownBlock) → Hid (Near v v' w) → wpList Tryd.prog ops Q rest (a.put o.dst v') w') : wpList Tryd.prog ops Q (o :: rest) a w := by
  obtain ⟨i0, hi, hz0, hz1, hz2⟩ := OwnI.info
  refine wpList_append_lies _ hgd s x 38 ho base 3 i0 (.int .i64 0) 1 8 Tryd.underlying38 hi hz0 hz1 hz2 rfl (by decide) v K.length (ints' K) hs hown ad m c (ints' ns) hx (by rw [intI_length, hm, Nat.mul_one]) hnews (fun u hu => by
    unfold ints' at hu
    obtain ⟨y, _, rfl⟩ := List.mem_map.1 hu
    rfl) hm0 (by unfold maxLen; omega) (by omega) hbase _ rfl ?_
  intro g cap w' h1 h2 h3 _
  refine h _ w' ?_ h2 (near_of h3)
  unfold Hid OwnI
  rw [List.length_append, hm]
  have e : ints' (K ++ ns) = ints' K ++ ints' ns := by simp [ints']
  rw [e]
  exact h1

/-- the layers from the k-th on that have a part -/
def whyF (s key : ByteArray) : Nat → List (List Ent) → List Int
  | _, [] => []
  | k, l :: t => match l.find? (fun x => x.of s key) with
    | none => whyF s key (k + 1) t
    | some e => (k : Int) :: (if e.op = 2 then whyF s key (k + 1) t else [])
def whyL (sl : List (List Ent)) (s key : ByteArray) : List Int := if vstack sl = true then whyF s key 0 sl else []
theorem whyF_none {sl : List (List Ent)} {s key : ByteArray} {k : Nat} (hk : k < sl.length) (h : sl[k].find? (fun x => x.of s key) = none) : whyF s key k (sl.drop k) = whyF s key (k + 1) (sl.drop (k + 1)) := by
  rw [List.drop_eq_getElem_cons hk, whyF, h]
theorem whyF_some {sl : List (List Ent)} {s key : ByteArray} {k : Nat} (hk : k < sl.length) {e : Ent} (h : sl[k].find? (fun x => x.of s key) = some e) : whyF s key k (sl.drop k) = (k : Int) :: (if e.op = 2 then whyF s key (k + 1) (sl.drop (k + 1)) else []) := by
  rw [List.drop_eq_getElem_cons hk, whyF, h]
theorem whyF_len (s key : ByteArray) : ∀ (sl : List (List Ent)) (k : Nat), (whyF s key k sl).length ≤ sl.length
  | [], _ => Nat.le_refl _
  | l :: t, k => by
    have ih := whyF_len s key t (k + 1)
    unfold whyF
    split
    · simp; omega
    · split
      · simp; omega
      · simp
theorem whyL_5 (sl : List (List Ent)) (s key : ByteArray) : (whyL sl s key).length ≤ 5 := by
  unfold whyL
  split
  · rename_i h
    exact Nat.le_trans (whyF_len _ _ _ _) (vstack_5 h)
  · simp
/-- a call's end: a list of numbers of its own -/
def IntsRet (xs : List Int) (w : World) (e : Ending) (w' : World) : Prop := ∃ v, e = .returned v ∧ OwnI w' w.heap.size v xs ∧ Grows w w'

set_option maxRecDepth 100000 in
set_option maxHeartbeats 4000000 in
theorem specWhy_any (A : Option Addr) (c : Nat) (sl : List (List Ent)) (s key : ByteArray) (w : World) (hn : sl.length ≤ 1048576) (hf : ∀ l ∈ sl, EFit l) (hA : StackAt w A sl) :
    Calls Tryd.prog 19 #[.slice A sl.length c, .string s, .string key] w (IntsRet (whyL sl s key) w) := by
  have HS := Lib.hid (specStack_any A c sl w hn hf hA)
  by_cases hv : vstack sl = true
  · have h5 := vstack_5 hv
    have HW : Hid (whyL sl s key = whyF s key 0 sl) := by unfold Hid whyL; rw [if_pos hv]
    have HA := Lib.hid hA
    have HL := Lib.hid (vstack_all hv)
    rw [hv] at HS
    clear hA hv hf
    obtain ⟨n, hnn⟩ : ∃ n, sl.length = n := ⟨_, rfl⟩
    rw [hnn] at h5 HS ⊢
    have HN := Lib.hid hnn
    clear hnn hn
    go_enter Tryd.func19, Tryd.ntmps19
    go_wp2_with fail
    refine (HS.out).mono ?_
    rintro e w0 ⟨rfl, g0⟩
    have G0 := Lib.hid g0
    clear g0 HS
    go_upto_region 4 with (fail)
    have O0 : Hid (OwnI (w0.alloc (.cells #[] 3)) w.heap.size (.slice (some ⟨w0.heap.size, 0, none⟩) 0 0) []) := OwnI.empty w0 _ G0.out.size
    have G1 : Hid (Grows w (w0.alloc (.cells #[] 3))) := G0.out.alloc _
    have hsz : w.heap.size ≤ (w0.alloc (.cells #[] 3)).heap.size := G1.out.size
    obtain ⟨v0, hv0⟩ : ∃ v0, (Value.slice (some ⟨w0.heap.size, 0, none⟩) 0 0) = v0 := ⟨_, rfl⟩
    rw [hv0] at O0 ⊢
    obtain ⟨w1, hw1⟩ : ∃ w1, w0.alloc (.cells #[] 3) = w1 := ⟨_, rfl⟩
    rw [hw1] at O0 G1 hsz ⊢
    clear hv0 hw1 G0
    go_wp2_with fail
    go_loopw [7, 8] (fun v i wr => ∃ (k : Nat) (ys : List Int), k ≤ n ∧ i = .int .i64 k ∧ ys.length ≤ k ∧ Hid (OwnI wr w.heap.size v ys) ∧ Hid (ys ++ whyF s key k (sl.drop k) = whyF s key 0 sl) ∧ Hid (Grows w wr)) (fun _ i _ => n - (intOf i).toNat)
    case atStart => exact ⟨0, [], Nat.zero_le _, rfl, Nat.le_refl _, O0, by unfold Hid; simp, G1⟩
    case round =>
      obtain ⟨k, ys, hk, rfl, hyl, HO, HY, HG⟩ := hrel
      by_cases hlt : k < n
      · obtain ⟨b, o, rfl, hb, hc⟩ := HA.out (by rw [HN.out]; omega)
        have hk2 : k < sl.length := by rw [HN.out]; exact hlt
        obtain ⟨A', c', h1, h2, h3⟩ := hc k hk2
        have c0 := (HG.out.cell (p := ⟨b, o + k, none⟩) hb).trans h1
        have hvl := HL.out sl[k] (List.getElem_mem hk2)
        have HCN := Lib.hid (fun h => whyF_none (s := s) (key := key) hk2 h)
        have HCS := Lib.hid (fun e h => whyF_some (s := s) (key := key) (e := e) hk2 h)
        have h3' := h3.keep HG.out
        obtain ⟨x, hx⟩ : ∃ x, sl[k] = x := ⟨_, rfl⟩
        rw [hx] at HCN HCS c0 h3 h3' hvl
        have h20 := vlayer_20 hvl
        have HE := Lib.hid (fun w1 (g : Grows wr w1) => entryAt_any A' c' x s key w1 (by omega) (h3'.keep g))
        have HVX := Lib.hid (vlayer_vent hvl)
        have HAT := Lib.hid h3
        obtain ⟨m, hm⟩ : ∃ m, x.length = m := ⟨_, rfl⟩
        have HM := Lib.hid hm
        rw [hm] at c0 HE h20
        clear hc h1 h2 h3 hx hvl h3' hm
        rcases find_idx s key x 0 with ⟨h0, hl0⟩ | ⟨p, hp, h0, hl0⟩
        · have HQ' : Hid (ys ++ whyF s key (k + 1) (sl.drop (k + 1)) = whyF s key 0 sl) := by unfold Hid; rw [← HCN.out hl0]; exact HY.out
          have h0' : entIdx x s key = -1 := h0
          rw [h0'] at HE
          clear h0 hl0 h0'
          go_wp2_with fail
          refine (HE.out _ (Grows.refl _)).mono ?_
          rintro e w1 ⟨rfl, rfl⟩
          go_wp2
          go_roundw
          case rel => exact ⟨k + 1, ys, by omega, by go_num, by omega, HO, HQ', HG⟩
          case measure => (simp [intOf]; try omega)
        · have h0' : entIdx x s key = (p : Int) := by unfold entIdx; rw [h0, Nat.zero_add]
          rw [h0'] at HE
          obtain ⟨b2, o2, rfl, hb2, hc2⟩ := HAT.out (by omega)
          have hat := (hc2 p hp).keep hb2 HG.out
          have hve := HVX.out x[p] (List.getElem_mem hp)
          have HCS' := Lib.hid (HCS.out _ hl0)
          obtain ⟨⟨es, ek, eo, ev⟩, he⟩ : ∃ e, x[p] = e := ⟨_, rfl⟩
          rw [he] at hat hve HCS'
          obtain ⟨d0, d1, d2, d3⟩ := hat
          simp only at d2
          have hpm : p < m := by rw [← HM.out]; exact hp
          have hops : eo = 0 ∨ eo = 1 ∨ eo = 2 := vent_ops3 hve
          have HB2 := Lib.hid hb2
          have HB1 := Lib.hid (World.block_lt_of_cell? wr _ c0)
          clear h0 h0' hl0 hc2 he hve d0 d1 d3
          have hbase : w.heap.size ≤ (wr.alloc (.cells #[.int .i64 (k : Int)] 3)).heap.size := (HG.out.alloc _).size
          have NEW : Hid (eo = 2 → ys ++ [(k : Int)] ++ whyF s key (k + 1) (sl.drop (k + 1)) = whyF s key 0 sl) := fun h => by rw [← HY.out, HCS'.out]; simp [h]
          have END : Hid (eo ≠ 2 → ys ++ [(k : Int)] = whyF s key 0 sl) := fun h => by rw [← HY.out, HCS'.out]; simp [h]
          go_wp2_with fail
          refine (HE.out _ (Grows.refl _)).mono ?_
          rintro e w1 ⟨rfl, rfl⟩
          go_upto_region 10 with (at_builtin; refine appI rfl _ _ rfl w.heap.size _ ys rfl (HO.out.keep ((Grows.refl _).alloc _)) ⟨wr.heap.size, 0, none⟩ 1 1 [(k : Int)] rfl rfl (by omega) (one_newsI _ _ _ rfl) (by omega) (by omega) hbase ?_; intro v' w6 HO6 HGB HNE)
          have GB6 : Hid (wr.grownBy w6 _) := (gb_of2 ((Grows.refl wr).alloc _) _).trans HGB.out
          have HG6 : Hid (Grows w w6) := HG.out.mark GB6.out (fun q hq => ((World.ownsRow.lt HO.out) q hq).1)
          have c6 := (GB6.out.cell_far ⟨b, o + k, none⟩ HB1.out (fun e => by have := ((World.ownsRow.lt HO.out) b e.symm).1; omega)).trans c0
          have d6 := (GB6.out.cell_far ⟨b2, o2 + p * 4 + 2, none⟩ (Nat.lt_of_lt_of_le HB2.out HG.out.size) (fun e => by have := ((World.ownsRow.lt HO.out) b2 e.symm).1; have := HB2.out; omega)).trans d2
          clear c0 d2
          rcases hops with rfl | rfl | rfl
          · have HR : Hid (ys ++ [(k : Int)] = whyL sl s key) := (END.out (by decide)).trans HW.out.symm
            go_wp2
            go_ret
            rw [← HR.out]
            exact ⟨_, rfl, HO6.out, HG6.out⟩
          · have HR : Hid (ys ++ [(k : Int)] = whyL sl s key) := (END.out (by decide)).trans HW.out.symm
            go_wp2
            go_ret
            rw [← HR.out]
            exact ⟨_, rfl, HO6.out, HG6.out⟩
          · have HQ' := Lib.hid (NEW.out rfl)
            go_wp2
            go_roundw
            case rel => exact ⟨k + 1, ys ++ [(k : Int)], by omega, by go_num, by simp; omega, HO6, HQ', HG6⟩
            case measure => (simp [intOf]; try omega)
      · obtain rfl : k = n := by omega
        have HR : Hid (ys = whyL sl s key) := by
          have h := HY.out
          rw [List.drop_of_length_le (by rw [HN.out]; exact Nat.le_refl _), whyF, List.append_nil] at h
          exact h.trans HW.out.symm
        go_wp2
        go_ret
        rw [← HR.out]
        exact ⟨_, rfl, HO.out, HG.out⟩
  · have hv' : vstack sl = false := by simpa using hv
    have HW : Hid (whyL sl s key = []) := by unfold Hid whyL; rw [if_neg hv]
    rw [hv'] at HS
    clear hv hv' hA hf
    go_enter Tryd.func19, Tryd.ntmps19
    go_wp2_with fail
    refine (HS.out).mono ?_
    rintro e w0 ⟨rfl, g0⟩
    go_wp2
    go_ret
    rw [HW.out]
    exact ⟨_, rfl, OwnI.nil _ _, g0⟩

set_option maxRecDepth 100000 in
set_option maxHeartbeats 4000000 in
theorem implWhy_any (A : Option Addr) (c : Nat) (sl : List (List Ent)) (s key : ByteArray) (w : World) (hn : sl.length ≤ 1048576) (hf : ∀ l ∈ sl, EFit l) (hA : StackAt w A sl) (hs : s.size ≤ 1048576) (hkk : key.size ≤ 1048576) :
    Calls Tryd.prog 21 #[.slice A sl.length c, .string s, .string key] w (IntsRet (whyL sl s key) w) := by
  have HS := Lib.hid (implStack_any A c sl w hn hf hA)
  by_cases hv : vstack sl = true
  · have h5 := vstack_5 hv
    have HW : Hid (whyL sl s key = whyF s key 0 sl) := by unfold Hid whyL; rw [if_pos hv]
    have HA := Lib.hid hA
    have HL := Lib.hid (vstack_all hv)
    have HFT := Lib.hid hf
    rw [hv] at HS
    clear hA hv hf
    obtain ⟨n, hnn⟩ : ∃ n, sl.length = n := ⟨_, rfl⟩
    rw [hnn] at h5 HS ⊢
    have HN := Lib.hid hnn
    clear hnn hn
    go_enter Tryd.func21, Tryd.ntmps21
    go_wp2_with fail
    refine (HS.out).mono ?_
    rintro e w0 ⟨rfl, g0⟩
    have G0 := Lib.hid g0
    clear g0 HS
    go_wp2_with fail
    go_loopw [7, 17] (fun v i wr => ∃ (k : Nat) (ys : List Int), k ≤ n ∧ i = .int .i64 k ∧ ys.length ≤ k ∧ Hid (OwnI wr w.heap.size v ys) ∧ Hid (ys ++ whyF s key k (sl.drop k) = whyF s key 0 sl) ∧ Hid (Grows w wr)) (fun _ i _ => n - (intOf i).toNat)
    case atStart => exact ⟨0, [], Nat.zero_le _, rfl, Nat.le_refl _, OwnI.nil _ _, by unfold Hid; simp, G0⟩
    case round =>
      obtain ⟨k, ys, hk, rfl, hyl, HO, HY, HG⟩ := hrel
      by_cases hlt : k < n
      · obtain ⟨b, o, rfl, hb, hc⟩ := HA.out (by rw [HN.out]; omega)
        have hk2 : k < sl.length := by rw [HN.out]; exact hlt
        obtain ⟨A', c', h1, h2, h3⟩ := hc k hk2
        have c0 := (HG.out.cell (p := ⟨b, o + k, none⟩) hb).trans h1
        have hvl := HL.out sl[k] (List.getElem_mem hk2)
        have hfl := HFT.out sl[k] (List.getElem_mem hk2)
        have HCN := Lib.hid (fun h => whyF_none (s := s) (key := key) hk2 h)
        have HCS := Lib.hid (fun e h => whyF_some (s := s) (key := key) (e := e) hk2 h)
        have h3' := h3.keep HG.out
        obtain ⟨x, hx⟩ : ∃ x, sl[k] = x := ⟨_, rfl⟩
        rw [hx] at HCN HCS c0 h3' hvl hfl
        have HBP := Lib.hid (fun w1 (g : Grows wr w1) => byPlace_any A' c' x w1 hfl (h3'.keep g))
        unfold ResM at HBP
        have HVX := Lib.hid (vlayer_vent hvl)
        have HFL := Lib.hid (find_last (s := s) (k := key) x (vlayer_dist hvl))
        have HIS := Lib.hid (lastE_isSome x s key)
        obtain ⟨m, hm⟩ : ∃ m, x.length = m := ⟨_, rfl⟩
        rw [hm] at c0 HBP
        clear hc h1 h2 h3 hx hvl h3' hm hfl
        go_wp2_with fail
        refine (HBP.out _ ((Grows.refl _).alloc _)).mono ?_
        rintro e w1 ⟨mb, rfl, hM, hmb, g1⟩
        have HM := Lib.hid hM
        have HG1 : Hid (Grows w w1) := (HG.out.alloc _).trans g1
        have GR1 : Hid (Grows wr w1) := ((Grows.refl wr).alloc _).trans g1
        have HO1 := Lib.hid (HO.out.keep GR1.out)
        clear g1 hM c0 HBP
        rcases hl0 : x.find? (fun y => y.of s key) with _ | e
        · have HQ' : Hid (ys ++ whyF s key (k + 1) (sl.drop (k + 1)) = whyF s key 0 sl) := by unfold Hid; rw [← HCN.out hl0]; exact HY.out
          have HQ : Hid (lastE x s key = none) := HFL.out.trans hl0
          have HAY : Hid ((x.any fun y => y.of s key) = false) := by unfold Hid; rw [← HIS.out, HQ.out]; rfl
          clear hl0
          go_upto_region 8 with (at_lookup; refine lookE_ok rfl _ _ rfl mb x HM.out rfl s key rfl hs hkk ?_; rw [HQ.out, HAY.out]; simp only [Option.getD_none, Ent.zero, Ent.agg])
          have HGa : Hid (Grows w (w1.alloc (.cells #[.string ⟨#[]⟩, .string ⟨#[]⟩, .int .i64 0, .string ⟨#[]⟩] 66))) := HG1.out.alloc _
          have HOa := Lib.hid (HO1.out.keep ((Grows.refl w1).alloc (.cells #[.string ⟨#[]⟩, .string ⟨#[]⟩, .int .i64 0, .string ⟨#[]⟩] 66)))
          go_wp2
          go_roundw
          case rel => exact ⟨k + 1, ys, by omega, by go_num, by omega, HOa, HQ', HGa⟩
          case measure => (simp [intOf]; try omega)
        · have hmem := List.mem_of_find?_eq_some hl0
          have hve := HVX.out e hmem
          have HQ : Hid (lastE x s key = some e) := HFL.out.trans hl0
          have HAY : Hid ((x.any fun y => y.of s key) = true) := by unfold Hid; rw [← HIS.out, HQ.out]; rfl
          have HCS' := Lib.hid (HCS.out _ hl0)
          obtain ⟨es, ek, eo, ev⟩ := e
          have hops : eo = 0 ∨ eo = 1 ∨ eo = 2 := vent_ops3 hve
          have NEW : Hid (eo = 2 → ys ++ [(k : Int)] ++ whyF s key (k + 1) (sl.drop (k + 1)) = whyF s key 0 sl) := fun h => by rw [← HY.out, HCS'.out]; simp [h]
          have END : Hid (eo ≠ 2 → ys ++ [(k : Int)] = whyF s key 0 sl) := fun h => by rw [← HY.out, HCS'.out]; simp [h]
          clear hl0 hmem hve
          go_upto_region 8 with (at_lookup; refine lookE_ok rfl _ _ rfl mb x HM.out rfl s key rfl hs hkk ?_; rw [HQ.out, HAY.out]; simp only [Option.getD_some, Ent.agg])
          have HGa : Hid (Grows w (w1.alloc (.cells #[.string es, .string ek, .int .i64 eo, .string ev] 66))) := HG1.out.alloc _
          have HOa := Lib.hid (HO1.out.keep ((Grows.refl w1).alloc (.cells #[.string es, .string ek, .int .i64 eo, .string ev] 66)))
          have HEB : Hid (BoxE (w1.alloc (.cells #[.string es, .string ek, .int .i64 eo, .string ev] 66)) w1.heap.size ⟨es, ek, eo, ev⟩ 66) := BoxE.new w1 ⟨es, ek, eo, ev⟩ 66
          have HNB : Hid (∀ q, _ = some q → q ≠ w1.heap.size) := fun q hq => by have := ((World.ownsRow.lt HO1.out) q hq).2; omega
          generalize w1.heap.size = be at HEB HNB ⊢
          obtain ⟨w2, hw2⟩ : ∃ w', w1.alloc (.cells #[.string es, .string ek, .int .i64 eo, .string ev] 66) = w' := ⟨_, rfl⟩
          rw [hw2] at HGa HOa HEB ⊢
          clear hw2 HG1 GR1 HO1
          have hbase : w.heap.size ≤ (w2.alloc (.cells #[.int .i64 (k : Int)] 3)).heap.size := (HGa.out.alloc _).size
          have hbe := HEB.out.lt
          go_upto_region 10 with (at_builtin; refine appI rfl _ _ rfl w.heap.size _ ys rfl (HOa.out.keep ((Grows.refl _).alloc _)) ⟨w2.heap.size, 0, none⟩ 1 1 [(k : Int)] rfl rfl (by omega) (one_newsI _ _ _ rfl) (by omega) (by omega) hbase ?_; intro v' w6 HO6 HGB HNE)
          have GB6 : Hid (w2.grownBy w6 _) := (gb_of2 ((Grows.refl w2).alloc _) _).trans HGB.out
          have HG6 : Hid (Grows w w6) := HGa.out.mark GB6.out (fun q hq => ((World.ownsRow.lt HOa.out) q hq).1)
          have x2 := (GB6.out.cell_far ⟨be, 2, none⟩ hbe (fun e => HNB.out be e.symm rfl)).trans HEB.out.at2
          simp only at x2
          rcases hops with rfl | rfl | rfl
          · have HR : Hid (ys ++ [(k : Int)] = whyL sl s key) := (END.out (by decide)).trans HW.out.symm
            go_wp2
            go_ret
            rw [← HR.out]
            exact ⟨_, rfl, HO6.out, HG6.out⟩
          · have HR : Hid (ys ++ [(k : Int)] = whyL sl s key) := (END.out (by decide)).trans HW.out.symm
            go_wp2
            go_ret
            rw [← HR.out]
            exact ⟨_, rfl, HO6.out, HG6.out⟩
          · have HQ' := Lib.hid (NEW.out rfl)
            go_wp2
            go_roundw
            case rel => exact ⟨k + 1, ys ++ [(k : Int)], by omega, by go_num, by simp; omega, HO6, HQ', HG6⟩
            case measure => (simp [intOf]; try omega)
      · obtain rfl : k = n := by omega
        have HR : Hid (ys = whyL sl s key) := by
          have h := HY.out
          rw [List.drop_of_length_le (by rw [HN.out]; exact Nat.le_refl _), whyF, List.append_nil] at h
          exact h.trans HW.out.symm
        go_wp2
        go_ret
        rw [← HR.out]
        exact ⟨_, rfl, HO.out, HG.out⟩
  · have hv' : vstack sl = false := by simpa using hv
    have HW : Hid (whyL sl s key = []) := by unfold Hid whyL; rw [if_neg hv]
    rw [hv'] at HS
    clear hv hv' hA hf
    go_enter Tryd.func21, Tryd.ntmps21
    go_wp2_with fail
    refine (HS.out).mono ?_
    rintro e w0 ⟨rfl, g0⟩
    go_wp2
    go_ret
    rw [HW.out]
    exact ⟨_, rfl, OwnI.nil _ _, g0⟩
end Go.Proofs.YtcecjdjfbgmogaaDoor
