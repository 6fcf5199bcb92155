/-
  The drawn law of WhyValue: whatever its bytes, it returns true. Condition: no more bytes than a slice may have.
-/
import Derived.Test.YtcecjdjfbgmogaaDoorWhy
import Derived.Test.YtcecjdjfbgmogaaDoorDRsl
namespace Go.Proofs.YtcecjdjfbgmogaaDoor
open Go.RowKit

/-! ### the layers that have a part -/
theorem whyF_ge (s key : ByteArray) : ∀ (t : List (List Ent)) (k : Nat), ∀ x ∈ whyF s key k t, (k : Int) ≤ x
  | [], _, x, h => by simp [whyF] at h
  | l :: t, k, x, h => by
    have ih := whyF_ge s key t (k + 1)
    unfold whyF at h
    split at h
    · have := ih x h; omega
    · split at h
      · rcases List.mem_cons.1 h with h | h
        · omega
        · have := ih x h; omega
      · rw [List.mem_singleton] at h; omega
theorem whyF_asc (s key : ByteArray) : ∀ (t : List (List Ent)) (k : Nat), ascI (whyF s key k t)
  | [], _ => fun i h => by simp [whyF] at h
  | l :: t, k => by
    have ih := whyF_asc s key t (k + 1)
    have hg := whyF_ge s key t (k + 1)
    unfold whyF
    split
    · exact ih
    · split
      · intro i h
        cases i with
        | zero =>
          have h1 := hg _ (List.getElem_mem (show 0 < (whyF s key (k + 1) t).length by simpa using h))
          simp only [List.getElem_cons_zero, List.getElem_cons_succ]
          omega
        | succ i =>
          have h1 := ih i (by simpa using h)
          simpa using h1
      · intro i h; simp at h
theorem whyL_asc (sl : List (List Ent)) (s key : ByteArray) : ascI (whyL sl s key) := by
  unfold whyL
  split
  · exact whyF_asc s key sl 0
  · intro i h; simp at h
/-- the layers from the k-th on whose number is in J -/
def fewF (J : List Int) : Nat → List (List Ent) → List (List Ent)
  | _, [] => []
  | k, l :: t => if inI J (k : Int) = true then l :: fewF J (k + 1) t else fewF J (k + 1) t
theorem fewF_step {J : List Int} {sl : List (List Ent)} {k : Nat} (hk : k < sl.length) : fewF J k (sl.drop k) = if inI J (k : Int) = true then sl[k] :: fewF J (k + 1) (sl.drop (k + 1)) else fewF J (k + 1) (sl.drop (k + 1)) := by
  rw [List.drop_eq_getElem_cons hk, fewF]
theorem inI_cons (y : Int) (J : List Int) (k : Int) : inI (y :: J) k = ((y == k) || inI J k) := by simp [inI]
theorem inI_lt {J : List Int} {k m : Nat} (h : ∀ x ∈ J, (m : Int) ≤ x) (hk : k < m) : inI J (k : Int) = false := by
  unfold inI
  rw [List.any_eq_false]
  intro x hx e
  have := h x hx
  rw [beq_iff_eq] at e
  omega
theorem fewF_cons (J : List Int) (y : Nat) : ∀ (t : List (List Ent)) (k : Nat), y < k → fewF ((y : Int) :: J) k t = fewF J k t
  | [], _, _ => rfl
  | l :: t, k, h => by
    have ih := fewF_cons J y t (k + 1) (by omega)
    have hb : (((y : Int)) == ((k : Nat) : Int)) = false := beq_eq_false_iff_ne.2 (by omega)
    unfold fewF
    rw [inI_cons, hb, Bool.false_or, ih]
theorem fewF_nil : ∀ (t : List (List Ent)) (k : Nat), fewF [] k t = []
  | [], _ => rfl
  | l :: t, k => by
    unfold fewF
    rw [show inI [] (k : Int) = false from rfl, if_neg (by simp), fewF_nil t (k + 1)]
theorem fewF_sub (J : List Int) : ∀ (t : List (List Ent)) (k : Nat), (fewF J k t).length ≤ t.length ∧ ∀ l ∈ fewF J k t, l ∈ t
  | [], _ => ⟨Nat.le_refl _, fun l h => h⟩
  | a :: t, k => by
    obtain ⟨h1, h2⟩ := fewF_sub J t (k + 1)
    unfold fewF
    split
    · refine ⟨by simpa using h1, fun l hl => ?_⟩
      rcases List.mem_cons.1 hl with h | h
      · rw [h]; exact List.mem_cons_self
      · exact List.mem_cons_of_mem _ (h2 l h)
    · exact ⟨Nat.le_succ_of_le h1, fun l hl => List.mem_cons_of_mem _ (h2 l hl)⟩
theorem few_told (s key : ByteArray) : ∀ (t : List (List Ent)) (k : Nat), (∀ l ∈ t, vlayer l = true) → foldV (allE (fewF (whyF s key k t) k t)) noV s key = foldV (allE t) noV s key
  | [], _, _ => rfl
  | l :: t, k, h => by
    have ih := few_told s key t (k + 1) (fun x hx => h x (List.mem_cons_of_mem _ hx))
    have hg := whyF_ge s key t (k + 1)
    have hl := h l List.mem_cons_self
    have hd := vlayer_dist hl
    have hAt := fun V => foldV_at s key l V hd
    rw [allE_cons, foldV_app, hAt]
    unfold whyF
    rcases hf : l.find? (fun x => x.of s key) with _ | e
    · simp only [hf]
      unfold fewF
      rw [inI_lt hg (Nat.lt_succ_self k), if_neg (by simp), ih]
    · simp only [hf]
      have hv := vlayer_vent hl e (List.mem_of_find?_eq_some hf)
      have hops := vent_ops3 hv
      by_cases h2 : e.op = 2
      · rw [if_pos h2]
        unfold fewF
        rw [inI_cons, show (((k : Int)) == ((k : Nat) : Int)) = true from beq_self_eq_true _, Bool.true_or, if_pos rfl, fewF_cons _ _ _ _ (Nat.lt_succ_self k), allE_cons, foldV_app, hAt, hf, ih]
      · rw [if_neg h2]
        unfold fewF
        rw [inI_cons, show (((k : Int)) == ((k : Nat) : Int)) = true from beq_self_eq_true _, Bool.true_or, if_pos rfl, fewF_cons _ _ _ _ (Nat.lt_succ_self k), fewF_nil, allE_cons, foldV_app, hAt, hf]
        try simp only
        unfold stepV
        rcases hops with e0 | e1 | e2
        · simp [e0]
        · simp [e1]
        · exact absurd e2 h2
theorem few_tell {sl : List (List Ent)} {s key : ByteArray} (hne : (whyL sl s key).length ≠ 0) :
    tellS (fewF (whyL sl s key) 0 sl) s key = tellS sl s key ∧ tellB (fewF (whyL sl s key) 0 sl) s key = tellB sl s key := by
  by_cases hv : vstack sl = true
  · have hw : whyL sl s key = whyF s key 0 sl := by unfold whyL; rw [if_pos hv]
    obtain ⟨h1, h2⟩ := fewF_sub (whyL sl s key) sl 0
    have hvf : vstack (fewF (whyL sl s key) 0 sl) = true := by
      unfold vstack
      rw [Bool.and_eq_true, List.all_eq_true, decide_eq_true_iff]
      exact ⟨fun l hl => vstack_all hv l (h2 l hl), Nat.le_trans h1 (vstack_5 hv)⟩
    have ht : toldV (fewF (whyL sl s key) 0 sl) s key = toldV sl s key := by
      unfold toldV
      rw [hw]
      exact few_told s key sl 0 (vstack_all hv)
    unfold tellS tellB
    rw [hvf, hv, ht]
    exact ⟨rfl, rfl⟩
  · exact absurd (by unfold whyL; rw [if_neg hv]; rfl) hne
theorem fewF_short {J : List Int} {sl : List (List Ent)} (h : ShortS sl) : ShortS (fewF J 0 sl) :=
  ⟨Nat.le_trans (fewF_sub J sl 0).1 h.1, fun l hl => h.2 l ((fewF_sub J sl 0).2 l hl)⟩

theorem implWhy_stk (v : Value) (b : Nat) (sl : List (List Ent)) (s key : ByteArray) (w : World) (h6 : sl.length ≤ 6) (hf : ∀ l ∈ sl, EFit l) (h : Stk w b v sl) (hs : s.size ≤ 1048576) (hk : key.size ≤ 1048576) :
    Calls Tryd.prog 21 #[v, .string s, .string key] w (IntsRet (whyL sl s key) w) := by
  obtain ⟨A, c, rfl, hA⟩ := h.form
  exact implWhy_any A c sl s key w (by omega) hf hA hs hk
theorem specWhy_stk (v : Value) (b : Nat) (sl : List (List Ent)) (s key : ByteArray) (w : World) (h6 : sl.length ≤ 6) (hf : ∀ l ∈ sl, EFit l) (h : Stk w b v sl) :
    Calls Tryd.prog 19 #[v, .string s, .string key] w (IntsRet (whyL sl s key) w) := by
  obtain ⟨A, c, rfl, hA⟩ := h.form
  exact specWhy_any A c sl s key w (by omega) hf hA

set_option maxRecDepth 100000 in
set_option maxHeartbeats 1000000 in
theorem DrawWhyValue_any (A : Option Addr) (n c : Nat) (w : World) (hn : n ≤ maxLen) (hc : n ≤ c) (h : BytesAt w A n) :
    Calls Tryd.prog 27 #[.slice A n c] w (DRsl w) := by
  have HR := Lib.hid (DrawResolve_any A n c w hn hc h)
  clear h
  unfold DRsl at HR
  go_enter Tryd.func27, Tryd.ntmps27
  go_wp2_with fail
  refine (HR.out).mono ?_
  rintro e w1 ⟨v, sl, s, k, rfl, hS, hO, hs, hk, g1⟩
  have SS := Lib.hid hS
  have HO := Lib.hid hO
  have HG := Lib.hid g1
  clear hS hO g1
  go_wp2
  refine bodyPost_ret (v := .tuple #[v, .string s, .string k]) (by simp [results, Tryd.results27, go_sem]) rfl ?_
  exact ⟨_, sl, s, k, rfl, SS.out, HO.out, hs, hk, HG.out⟩

set_option maxRecDepth 100000 in
set_option maxHeartbeats 8000000 in
theorem dWhy_any (A : Option Addr) (n c : Nat) (w : World) (hn : n ≤ maxLen) (hc : n ≤ c) (h : BytesAt w A n) :
    Calls Tryd.prog 6 #[.slice A n c] w fun e w' => e = .returned (.bool true) ∧ Below w.heap.size w w' := by
  by_cases hbig : 1048576 < n
  · clear h
    unfold maxLen at hn
    go_enter Tryd.func6, Tryd.ntmps6
    go_wp2
    go_ret
    exact ⟨rfl, (Grows.refl _).below⟩
  · have HD := Lib.hid (DrawWhyValue_any A n c w hn hc h)
    clear h
    unfold maxLen at hn
    go_enter Tryd.func6, Tryd.ntmps6
    go_wp2_with fail
    refine (HD.out).mono ?_
    rintro e w1 ⟨v, sl, s, key, rfl, hS, hO, hs, hk, g1⟩
    have hf := hS.fit
    have hn6 := hS.1
    have hs' : s.size ≤ 1048576 := by omega
    have hk' : key.size ≤ 1048576 := by omega
    have HI := Lib.hid (fun v b w2 (h : Stk w2 b v sl) => implWhy_stk v b sl s key w2 hn6 hf h hs' hk')
    have HV := Lib.hid (fun v b w2 (h : Stk w2 b v sl) => specWhy_stk v b sl s key w2 hn6 hf h)
    have HR1 := Lib.hid (fun v b w2 (h : Stk w2 b v sl) => implRes_stk v b sl s key w2 hn6 hf h hs' hk')
    have hSF := fewF_short (J := whyL sl s key) hS
    have hfF := hSF.fit
    have hnF := hSF.1
    have HR2 := Lib.hid (fun v b w2 (h : Stk w2 b v (fewF (whyL sl s key) 0 sl)) => implRes_stk v b (fewF (whyL sl s key) 0 sl) s key w2 hnF hfF h hs' hk')
    have HTE := Lib.hid (fun h => few_tell (sl := sl) (s := s) (key := key) h)
    have hasc := whyL_asc sl s key
    have hj5 := whyL_5 sl s key
    have HST := Lib.hid (fun k (hk : k < sl.length) => fewF_step (J := whyL sl s key) hk)
    unfold IntsRet at HI HV
    obtain ⟨J, hJ⟩ : ∃ J, whyL sl s key = J := ⟨_, rfl⟩
    rw [hJ] at HI HV HR2 HTE hasc hj5 HST
    obtain ⟨F, hF⟩ : ∃ F, fewF J 0 sl = F := ⟨_, rfl⟩
    rw [hF] at HR2 HTE
    obtain ⟨τ, hτ⟩ : ∃ τ, tellS sl s key = τ := ⟨_, rfl⟩
    obtain ⟨β, hβ⟩ : ∃ β, tellB sl s key = β := ⟨_, rfl⟩
    rw [hτ, hβ] at HR1 HTE
    have HF := Lib.hid hF
    have HEQ := Lib.hid (fun (v u : Value) (b1 b2 : Nat) w1 (h1 : OwnI w1 b1 v J) (h2 : OwnI w1 b2 u J) => equalInts_any v u b1 b2 J w1 (by omega) h1 h2)
    have HII := Lib.hid (fun (v : Value) (b : Nat) (y : Nat) w1 (h1 : OwnI w1 b v J) => isIn_any v b J y w1 (by omega) h1)
    have HAS := Lib.hid (fun (v : Value) (b : Nat) w1 (h1 : OwnI w1 b v J) => ascends_any v b J w1 (by omega) hasc h1)
    have S0_1 := Lib.hid hO
    have T1 : Hid (Grows w1 w1) := Grows.refl _
    have HG1 := Lib.hid g1
    clear hS hO g1 hf HD hτ hβ hs hk hs' hk' hSF hfF hnF hJ hF hasc
    go_upto_region 4 with (fail)
    go_wp2_with fail
    refine (HI.out _ _ _ S0_1.out).mono ?_
    rintro e w2 ⟨u, rfl, hu, gq⟩
    have T2 : Hid (Grows w1 w2) := T1.out.trans gq
    have S0_2 := Lib.hid (S0_1.out.keep gq)
    clear S0_1 T1
    clear gq
    obtain ⟨AO4, cO4, hu', _⟩ := OwnI.form hu
    subst hu'
    have O4_2 := Lib.hid hu
    clear hu
    go_wp2_with fail
    refine (HV.out _ _ _ S0_2.out).mono ?_
    rintro e w3 ⟨u, rfl, hu, gq⟩
    have T3 : Hid (Grows w1 w3) := T2.out.trans gq
    have S0_3 := Lib.hid (S0_2.out.keep gq)
    have O4_3 := Lib.hid (O4_2.out.keep gq)
    clear S0_2 O4_2 T2
    clear gq
    obtain ⟨AO5, cO5, hu', _⟩ := OwnI.form hu
    subst hu'
    have O5_3 := Lib.hid hu
    clear hu
    go_wp2_with fail
    refine (HEQ.out _ _ _ _ _ O4_3.out O5_3.out).mono ?_
    rintro e w4 ⟨rfl, gq⟩
    have T4 : Hid (Grows w1 w4) := T3.out.trans gq
    have S0_4 := Lib.hid (S0_3.out.keep gq)
    have O4_4 := Lib.hid (O4_3.out.keep gq)
    have O5_4 := Lib.hid (O5_3.out.keep gq)
    clear S0_3 O4_3 O5_3 T3
    clear gq
    by_cases h0 : J.length = 0
    · have hj0 : (((J.length : Nat) : Int) == 0) = true := by rw [h0]; rfl
      clear h0 HTE
      go_wp2_with fail
      refine (HV.out _ _ _ S0_4.out).mono ?_
      rintro e w5 ⟨u, rfl, hu, gq⟩
      have T5 : Hid (Grows w1 w5) := T4.out.trans gq
      have S0_5 := Lib.hid (S0_4.out.keep gq)
      have O4_5 := Lib.hid (O4_4.out.keep gq)
      have O5_5 := Lib.hid (O5_4.out.keep gq)
      clear S0_4 O4_4 O5_4 T4
      clear gq
      obtain ⟨AO6, cO6, hu', _⟩ := OwnI.form hu
      subst hu'
      have O6_5 := Lib.hid hu
      clear hu
      go_wp2_with fail
      refine (HEQ.out _ _ _ _ _ O4_5.out O6_5.out).mono ?_
      rintro e w6 ⟨rfl, gq⟩
      have T6 : Hid (Grows w1 w6) := T5.out.trans gq
      have S0_6 := Lib.hid (S0_5.out.keep gq)
      have O4_6 := Lib.hid (O4_5.out.keep gq)
      have O5_6 := Lib.hid (O5_5.out.keep gq)
      have O6_6 := Lib.hid (O6_5.out.keep gq)
      clear S0_5 O4_5 O5_5 O6_5 T5
      clear gq
      go_wp2
      go_ret
      exact ⟨rfl, (HG1.out.trans T6.out).below⟩
    · have hj0 : (((J.length : Nat) : Int) == 0) = false := beq_eq_false_iff_ne.2 (by omega)
      obtain ⟨z1, z2⟩ := HTE.out h0
      rw [z1, z2] at HR2
      clear HTE z1 z2 h0 O5_4
      go_upto_region 8 with (fail)
      obtain ⟨B, hB⟩ : ∃ B, w4.heap.size = B := ⟨_, rfl⟩
      have L0 : Hid (OwnRL (w4.alloc (.cells #[] 25)) B (.slice (some ⟨w4.heap.size, 0, none⟩) 0 0) []) := OwnRL.empty w4 B (by omega)
      have GL : Hid (Grows w4 (w4.alloc (.cells #[] 25))) := (Grows.refl _).alloc _
      obtain ⟨vf, hvf⟩ : ∃ vf, (Value.slice (some ⟨w4.heap.size, 0, none⟩) 0 0) = vf := ⟨_, rfl⟩
      rw [hvf] at L0 ⊢
      obtain ⟨wl, hwl⟩ : ∃ wl, w4.alloc (.cells #[] 25) = wl := ⟨_, rfl⟩
      rw [hwl] at L0 GL ⊢
      have hBl : B ≤ w4.heap.size := by omega
      have hBg : w4.heap.size ≤ B := by omega
      have BLE : w.heap.size ≤ B := by rw [← hB]; exact Nat.le_trans HG1.out.size T4.out.size
      have hBs : B ≤ wl.heap.size := by rw [← hB]; exact GL.out.size
      clear hvf hwl hB
      obtain ⟨AS, cS, hv', hAS⟩ := Stk.form S0_4.out
      obtain ⟨ns, hns⟩ : ∃ ns, sl.length = ns := ⟨_, rfl⟩
      have HNS := Lib.hid hns
      rw [hns] at hv' hn6
      clear hns
      subst hv'
      have HAS2 := Lib.hid hAS
      clear hAS
      go_wp2_with fail
      go_loopw [7, 8] (fun v i wr => ∃ (k : Nat) (vs : List Value) (fs : List (List Ent)), k ≤ ns ∧ i = .int .i64 k ∧ fs.length ≤ k ∧ vs.length = fs.length ∧ Hid (OwnRL wr B v vs) ∧ Hid (∀ i x (h : i < fs.length), vs[i]? = some x → OwnE w4 w.heap.size x fs[i]) ∧ Hid (fs ++ fewF J k (sl.drop k) = F) ∧ Hid (Grows w4 wr)) (fun _ i _ => ns - (intOf i).toNat)
      case atStart => exact ⟨0, [], [], Nat.zero_le _, rfl, Nat.le_refl _, rfl, L0, fun i x h => absurd h (Nat.not_lt_zero _), by unfold Hid; rw [List.nil_append, List.drop_zero]; exact HF.out, GL⟩
      case round =>
        obtain ⟨k, vs, fs, hk, rfl, hfk, hvl, HO, HEL, HFF, HG⟩ := hrel
        have O4r := Lib.hid (O4_4.out.keep HG.out)
        by_cases hlt : k < ns
        · have hk2 : k < sl.length := by rw [HNS.out]; exact hlt
          have hst := HST.out k hk2
          by_cases hin : inI J (k : Int) = true
          · rw [hin, if_pos rfl] at hst
            have HFN : Hid (fs ++ [sl[k]] ++ fewF J (k + 1) (sl.drop (k + 1)) = F) := by unfold Hid; rw [← HFF.out, hst]; simp
            have HIK := Lib.hid (HII.out _ _ k wr O4r.out)
            rw [hin] at HIK
            obtain ⟨vst, h1, h2, h3⟩ := S0_4.out
            obtain ⟨A', c', hu, _, _⟩ := (h3 k _ hk2 (List.getElem?_eq_getElem (by omega))).formC
            have hgu := List.getElem?_eq_getElem (show k < vst.length by omega)
            rw [hu] at hgu
            have hown := h3 k _ hk2 hgu
            obtain ⟨gs, caps, hvs, hbs, hls⟩ := World.ownsRow.form h1 (by omega)
            injection hvs with hvs1 hvs2 hvs3
            subst hvs1
            have h1' : OwnRL w4 w.heap.size (.slice (some ⟨gs, 0, none⟩) vst.length cS) vst := hvs2 ▸ h1
            have c0 := (HG.out.cell (p := ⟨gs, k, none⟩) hls).trans ((World.ownsRow.cellAt h1' k (by omega)).trans hgu)
            have HOW := Lib.hid hown
            obtain ⟨x, hx⟩ : ∃ x, sl[k] = x := ⟨_, rfl⟩
            rw [hx] at c0 HFN HOW
            obtain ⟨mx, hmx⟩ : ∃ mx, x.length = mx := ⟨_, rfl⟩
            have HPU := Lib.hid (Stk.push hvl HEL.out HOW.out)
            rw [hmx] at c0 HPU
            clear hin hst h1 h1' h2 h3 hu hgu hown hx hmx hbs hvs2 hvs3
            have hbase : B ≤ (wr.alloc (.cells #[.slice A' mx c'] 25)).heap.size := by have := HG.out.size; have := GL.out.size; simp; omega
            go_wp2_with fail
            refine (HIK.out).mono ?_
            rintro e w9 ⟨rfl, rfl⟩
            go_wp2_with (at_builtin; refine appRL rfl _ _ rfl B _ vs rfl (HO.out.keep ((Grows.refl wr).alloc _)) ⟨wr.heap.size, 0, none⟩ A' mx c' rfl (by simp) rfl (by omega) hbase ?_; intro v' w6 HR6 HGB HNE)
            have HG6 : Hid (Grows w4 w6) := (HG.out.alloc _).mark HGB.out (fun q hq => by have := (HO.out.lt q hq).1; omega)
            go_wp2
            go_roundw
            case rel => exact ⟨k + 1, vs ++ [Value.slice A' mx c'], fs ++ [x], by omega, by go_num, by simp; omega, by simp; omega, HR6, HPU.out.2, HFN, HG6⟩
            case measure => (simp [intOf]; try omega)
          · have hin' : inI J (k : Int) = false := by simpa using hin
            rw [hin', if_neg (by simp)] at hst
            have HFN : Hid (fs ++ fewF J (k + 1) (sl.drop (k + 1)) = F) := by unfold Hid; rw [← HFF.out, hst]
            have HIK := Lib.hid (HII.out _ _ k wr O4r.out)
            rw [hin'] at HIK
            clear hin hin' hst
            go_wp2_with fail
            refine (HIK.out).mono ?_
            rintro e w9 ⟨rfl, rfl⟩
            go_wp2
            go_roundw
            case rel => exact ⟨k + 1, vs, fs, by omega, by go_num, by omega, hvl, HO, HEL, HFN, HG⟩
            case measure => (simp [intOf]; try omega)
        · obtain rfl : k = ns := by omega
          have HFE : Hid (fs = F) := by
            have h := HFF.out
            rw [List.drop_of_length_le (by rw [HNS.out]; exact Nat.le_refl _), fewF, List.append_nil] at h
            exact h
          have hB1 : w.heap.size ≤ B := BLE
          have SF_9 : Hid (Stk wr w.heap.size u7 F) := by
            have h0 : Stk wr w.heap.size u7 fs := ⟨vs, ⟨HO.out.1, by
              rcases HO.out.2 with h2 | ⟨g, cap, cur, hv, hg, hr⟩
              · exact .inl h2
              · exact .inr ⟨g, cap, cur, hv, by omega, hr⟩⟩, hvl, fun i x hi hx => (HEL.out i x hi hx).keep HG.out⟩
            rw [HFE.out] at h0
            exact h0
          have S0_9 := Lib.hid (S0_4.out.keep HG.out)
          have T_9 : Hid (Grows w1 wr) := T4.out.trans HG.out
          have HR1x := Lib.hid (HR1.out _ _ _ S0_9.out)
          go_wp2_with fail
          refine (HR1x.out).mono ?_
          rintro e wa ⟨rfl, ga⟩
          have SF_a := Lib.hid (SF_9.out.keep ga)
          have O4_a := Lib.hid (O4r.out.keep ga)
          have T_a : Hid (Grows w1 wa) := T_9.out.trans ga
          clear ga S0_9 SF_9 O4r T_9
          go_wp2_with fail
          refine (HR2.out _ _ _ SF_a.out).mono ?_
          rintro e wb ⟨rfl, gb⟩
          have O4_b := Lib.hid (O4_a.out.keep gb)
          have T_b : Hid (Grows w1 wb) := T_a.out.trans gb
          have hbb : (β == β) = true := beq_self_eq_true β
          clear gb SF_a O4_a T_a
          go_wp2_with fail
          refine (HAS.out _ _ _ O4_b.out).mono ?_
          rintro e wc ⟨rfl, gc⟩
          go_wp2
          go_ret
          exact ⟨rfl, (HG1.out.trans (T_b.out.trans gc)).below⟩
end Go.Proofs.YtcecjdjfbgmogaaDoor
