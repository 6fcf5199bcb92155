/-
  A layer that is a bit another one: the generator 'changed' of the drawn laws. Conditions: the reader's place is at most 60000.
-/
import Derived.Test.YtkjoolmhcfajnaaDoorCutS
import Derived.Test.YtkjoolmhcfajnaaDoorPutE
import Derived.Test.YtkjoolmhcfajnaaDoorGLay
namespace Go.Proofs.YtkjoolmhcfajnaaDoor
open Go.RowKit

theorem OwnE.at_ {w : World} {base : Nat} {A : Option Addr} {n c : Nat} {es : List Ent} (h : OwnE w base (.slice A n c) es) : n = es.length ∧ EntsAt w A es := by
  obtain ⟨A', c', e, hE⟩ := h.form
  injection e with e1 e2 e3
  subst e1
  exact ⟨e2, hE⟩
theorem OwnE.cap_ {w : World} {base : Nat} {A : Option Addr} {n c : Nat} {es : List Ent} (h : OwnE w base (.slice A n c) es) : n ≤ c := by
  rcases h.2 with ⟨hv, h0⟩ | ⟨g, cap, cur, hv, _, _, hle, _⟩
  · injection hv with e1 e2 e3
    omega
  · injection hv with e1 e2 e3
    omega
theorem putR_len (L : List Ent) (e : Ent) : (putR L e).length ≤ L.length + 1 := by
  unfold putR
  split
  · rw [List.length_set]; omega
  · simp
theorem putR_short {L : List Ent} {e : Ent} (h : ShortE L) (he : e.short) : ShortE (putR L e) := by
  unfold putR
  split
  · intro x hx
    rcases List.mem_or_eq_of_mem_set hx with h1 | h1
    · exact h x h1
    · rw [h1]; exact he
  · exact h.snoc he
theorem putC_any (A9 : Option Addr) (m c9 b : Nat) (L : List Ent) (s1 s2 s3 : ByteArray) (W : World) (hm : L.length ≤ 1000) (h : OwnE W b (.slice A9 m c9) L) :
    Calls Tryd.prog 45 #[.slice A9 m c9, .agg #[.string s1, .string s2, .int .i64 0, .string s3]] W (RetE (putR L ⟨s1, s2, 0, s3⟩) W) := by
  obtain ⟨rfl, hE⟩ := h.at_
  exact specPut_any A9 c9 L ⟨s1, s2, 0, s3⟩ W (by omega) hE
theorem cutK_short {L : List Ent} (h : ShortE L) (k j : Nat) : ShortE (L.take k ++ L.drop j) := by
  intro x hx
  rcases List.mem_append.1 hx with h1 | h1
  · exact h x (List.mem_of_mem_take h1)
  · exact h x (List.mem_of_mem_drop h1)
theorem setV_short {L : List Ent} (h : ShortE L) (k : Nat) {e : Ent} (he : e.short) : ShortE (L.set k e) := by
  intro x hx
  rcases List.mem_or_eq_of_mem_set hx with h1 | h1
  · exact h x h1
  · rw [h1]; exact he
/-- a call's end: a layer of at most 104 entries of short texts -/
def ChgGen (d g : Nat) (A : Option Addr) (n c p : Nat) (w : World) (e : Ending) (w' : World) : Prop :=
  ∃ (v : Value) (L : List Ent), e = .returned (.agg #[v]) ∧ ShortE L ∧ L.length ≤ 104 ∧ OwnE w' w.heap.size v L ∧ RdOn g A n c p d w w'

set_option maxRecDepth 100000 in
set_option maxHeartbeats 8000000 in
theorem changed_any (g : Nat) (A : Option Addr) (n c p : Nat) (B : Option Addr) (d : Nat) (K : List Ent) (w : World) (hp : p ≤ 60000) (hn : n ≤ 2000) (h : Rd w g A n c p) (hS : ShortE K) (hK : K.length ≤ 101) (hB : EntsAt w B K) :
    Calls Tryd.prog 31 #[.pointer (some ⟨g, 0, none⟩), .agg #[.slice B K.length d]] w (ChgGen 40 g A n c p w) := by
  have H0 := Lib.hid h
  have HR := Lib.hid (fun o o2 => h.keep (((Grows.refl w).alloc o).alloc o2))
  have hgl := h.lt
  have HCP := Lib.hid (fun w1 (gr : Grows w w1) => specCopyEO_any B d K w1 (by omega) (hB.keep gr))
  unfold RetE at HCP
  have HSK := Lib.hid hS
  obtain ⟨m0, hm0⟩ : ∃ m0, K.length = m0 := ⟨_, rfl⟩
  have HM0 := Lib.hid hm0
  rw [hm0] at HCP ⊢
  clear h hS hB hm0
  go_enter Tryd.func31, Tryd.ntmps31
  go_wp2_with fail
  refine (HCP.out _ (((Grows.refl _).alloc _).alloc _)).mono ?_
  rintro e w1 ⟨v, rfl, hv, g1⟩
  have Z1 : Hid (Box w1 (w.heap.size + 1) (.slice none 0 0) 25) := row_grow (alloc_new2 w _ _) g1
  have R1 := Lib.hid ((HR.out _ _).keep g1)
  have O1 : Hid (OwnE w1 (w.heap.size + 2) v K) := hv.less (by simp)
  have G1 : Hid (w.grownBy w1 (some g)) := gb_of ((((Grows.refl w).alloc _).alloc _).trans g1)
  clear hv g1
  go_wp2_with fail
  refine (pick_any 4 g A n c p _ (by omega) (by omega) (by omega) hn R1.out).mono ?_
  rintro e w2 ⟨x, rfl, hx0, hx1, r2, k2⟩
  have hx3 : x ≤ 3 := by have := hx1 (by omega); omega
  have Z2 := Lib.hid (Z1.out.far k2 (by intro e; injection e with e; omega))
  have R2 := Lib.hid r2
  have O2 := Lib.hid (O1.out.far k2 (fun k hk e => by injection e with e; have := (O1.out.lt k hk).1; omega))
  have G2 : Hid (w.grownBy w2 (some g)) := G1.out.trans k2
  clear r2 k2 hx1 Z1 R1 O1 G1
  go_wp2_with fail
  go_loopw [5, 6] (fun v i wr => ∃ (y : Int) (L : List Ent) (q : Nat), i = .int .i64 y ∧ 0 ≤ y ∧ y ≤ 3 ∧ ((L.length : Int) + y ≤ 104) ∧ (q : Int) ≤ p + 1 + 9 * (3 - y) ∧ p ≤ q ∧ Hid (ShortE L) ∧ Hid (OwnE wr (w.heap.size + 2) v L) ∧ Hid (Rd wr g A n c q) ∧ Hid (Box wr (w.heap.size + 1) (.slice none 0 0) 25) ∧ Hid (w.grownBy wr (some g))) (fun _ i _ => (intOf i).toNat)
  case atStart => exact ⟨x, K, p + 1, rfl, by omega, by omega, by omega, by omega, by omega, HSK.out, O2.out, R2.out, Z2.out, G2.out⟩
  case round =>
    obtain ⟨y, L, q, rfl, hy0, hy3, hly, hq, hq0, HS, HO, HRd, HZ, HG⟩ := hrel
    obtain ⟨A9, c9, rfl, _⟩ := OwnE.form HO.out
    obtain ⟨m, hm⟩ : ∃ m, L.length = m := ⟨_, rfl⟩
    have HM := Lib.hid hm
    rw [hm] at HO hly ⊢
    clear hm
    by_cases hlt : 0 < y
    · go_wp2_with fail
      refine (pick_any ((m : Int) + 1) g A n c q _ (by omega) (by omega) (by omega) hn HRd.out).mono ?_
      rintro e w2 ⟨k, rfl, hk0, hk1, r2, k2⟩
      obtain ⟨k, rfl⟩ := Int.eq_ofNat_of_zero_le hk0
      have hkm0 : k ≤ m := by have := hk1 (by omega); omega
      have R2 := Lib.hid r2
      have K2 := Lib.hid k2
      clear r2 k2 hk0 hk1
      go_wp2_with fail
      refine (aSection_any g A n c (q + 1) _ (by omega) hn R2.out).mono ?_
      rintro e w3 ⟨s1, rfl, hs1, q3, a3, b3, r3, k3⟩
      have R3 := Lib.hid r3
      have K3 := Lib.hid (K2.out.trans k3)
      have HS1 := Lib.hid hs1
      clear r3 k3 hs1 K2 R2
      go_wp2_with fail
      refine (aKey_any g A n c q3 _ (by omega) hn R3.out).mono ?_
      rintro e w4 ⟨s2, rfl, hs2, q4, a4, b4, r4, k4⟩
      have R4 := Lib.hid r4
      have K4 := Lib.hid (K3.out.trans k4)
      have HS2 := Lib.hid hs2
      clear r4 k4 hs2 K3 R3
      go_wp2_with fail
      refine (aValue_any g A n c q4 _ (by omega) hn R4.out).mono ?_
      rintro e w5 ⟨s3, rfl, hs3, q5, a5, b5, r5, k5⟩
      have R5 := Lib.hid r5
      have K5 := Lib.hid (K4.out.trans k5)
      have HS3 := Lib.hid hs3
      clear r5 k5 hs3 K4 R4
      have G5 : Hid (w.grownBy w5 (some g)) := HG.out.trans K5.out
      have O5 := Lib.hid (HO.out.far K5.out (fun k hk e => by injection e with e; have := (HO.out.lt k hk).1; omega))
      have Z5 := Lib.hid (HZ.out.far K5.out (by intro e; injection e with e; omega))
      have hbw : w.heap.size + 2 ≤ w5.heap.size := by have := Z5.out.lt; omega
      have HES : Hid ((⟨s1, s2, 0, s3⟩ : Ent).short) := ⟨HS1.out, HS2.out, HS3.out, by show (-100 : Int) ≤ 0 ∧ (0 : Int) ≤ 100; omega⟩
      clear K5 HO HRd HZ HG
      go_upto_region 8 with (fail)
      have BE6 : Hid (BoxE (w5.alloc (.cells #[.string s1, .string s2, .int .i64 0, .string s3] 33 )) w5.heap.size ⟨s1, s2, 0, s3⟩ 33) := BoxE.new w5 ⟨s1, s2, 0, s3⟩ _
      have R6 := Lib.hid (R5.out.keep ((Grows.refl w5).alloc (.cells #[.string s1, .string s2, .int .i64 0, .string s3] 33 )))
      have O6 := Lib.hid (O5.out.keep ((Grows.refl w5).alloc (.cells #[.string s1, .string s2, .int .i64 0, .string s3] 33 )))
      have Z6 := Lib.hid (Z5.out.keep ((Grows.refl w5).alloc (.cells #[.string s1, .string s2, .int .i64 0, .string s3] 33 )))
      have G6 : Hid (w.grownBy (w5.alloc (.cells #[.string s1, .string s2, .int .i64 0, .string s3] 33 )) (some g)) := gb_grows G5.out ((Grows.refl _).alloc _)
      have HVB : Hid (∀ k, (Value.slice A9 m c9).ownBlock = some k → k < w5.heap.size) := fun k hk => (O5.out.lt k hk).2
      obtain ⟨w6, hw6⟩ : ∃ w6, w5.alloc (.cells #[.string s1, .string s2, .int .i64 0, .string s3] 33 ) = w6 := ⟨_, rfl⟩
      rw [hw6] at BE6 R6 O6 Z6 G6 ⊢
      obtain ⟨b, hb⟩ : ∃ b, w5.heap.size = b := ⟨_, rfl⟩
      rw [hb] at BE6 HVB hbw ⊢
      clear hw6 hb R5 O5 Z5 G5
      by_cases hkm : k < m
      · have hkmi : (k : Int) < (m : Int) := by omega
        go_wp2_with fail
        refine (pick_any 3 g A n c q5 _ (by omega) (by omega) (by omega) hn R6.out).mono ?_
        rintro e w7 ⟨z, rfl, _, _, r7, k7⟩
        have BE7 := Lib.hid (BE6.out.far k7 (fun e => by injection e with e; omega))
        have R7 := Lib.hid r7
        have O7 := Lib.hid (O6.out.far k7 (fun k hk e => by injection e with e; have := (O6.out.lt k hk).1; omega))
        have Z7 := Lib.hid (Z6.out.far k7 (by intro e; injection e with e; omega))
        have G7 : Hid (w.grownBy w7 (some g)) := G6.out.trans k7
        clear r7 k7 BE6 R6 O6 Z6 G6
        by_cases hz : z = 0
        · subst hz
          obtain ⟨gv, cv, hv9, hg0, hg1⟩ := O7.out.row2 (by rw [HM.out]; omega)
          injection hv9 with hv1 hv2 hv3
          subst hv1
          clear hv2 hv3
          have hmc : m ≤ c9 := O7.out.cap_
          have hkc : k ≤ c9 := by omega
          have hEA := O7.out.at_.2
          have HCK := Lib.hid (fun w' (gg : Grows w7 w') => specCopyE_any ⟨gv, 0, none⟩ c9 (L.take k) w' (by rw [List.length_take]; omega) (EntsAt.take (hEA.keep gg) k))
          have hlk : (L.take k).length = k := by rw [List.length_take, HM.out]; omega
          rw [hlk] at HCK
          unfold RetE at HCK
          have HDE := Lib.hid (fun w' (gg : Grows w7 w') => EntsAt.drop (hEA.keep gg) (k + 1))
          rw [Nat.zero_add] at HDE
          have HDL : Hid ((L.drop (k + 1)).length = m - (k + 1)) := by unfold Hid; rw [List.length_drop, HM.out]
          have hwk2 : IntKind.i64.wrap ((k + 1 : Nat) : Int) = ((k + 1 : Nat) : Int) := IntWalk.i64_in _ (by omega)
          have hwk : IntKind.i64.wrap ((k : Int) + 1) = ((k + 1 : Nat) : Int) := by rw [show ((k : Int) + 1) = ((k + 1 : Nat) : Int) by omega]; exact hwk2
          clear hEA hlk
          by_cases hcx : c9 = k + 1
          · have hdn : L.drop (k + 1) = [] := List.eq_nil_of_length_eq_zero (by have := HDL.out; omega)
            have hmk : m = k + 1 := by omega
            subst hmk
            subst hcx
            have hki : (k : Int) ≤ (k : Int) + 1 := by omega
            go_wp2_with fail
            refine wp_region_M 8 (fun _ => True) (by kernel_rfl) (by kernel_rfl) trivial (fun hB hS => ?_)
            refine wpAnyM_take (i := 0) (v := ?vaa0) hB rfl (by kernel_rfl) (fun _ _ _ h => h) (by rfl) ?yaa0 hS ?naa0
            case yaa0 => (intro w9 _; go_simp; try with_reducible rfl)
            refine wpAnyM_take (i := 1) (v := ?vaa1) hB rfl (by kernel_rfl) (fun _ _ _ h => h) (by rfl) ?yaa1 hS ?naa1
            case yaa1 => (intro w9 _; go_simp; try with_reducible rfl)
            refine wpAnyM_take (i := 2) (v := .slice (some ⟨gv, 0, none⟩) k (k + 1)) hB rfl (by kernel_rfl) (fun _ _ _ h => h) (by rfl) ?yaa2 hS ?naa2
            case yaa2 => (intro w9 _; go_simp; first | done | (split <;> first | rfl | (exfalso; omega)) | simp [hkc, hki])
            refine wpAnyM_take (i := 4) (v := ?vaa4) hB rfl (by kernel_rfl) (fun _ _ _ h => h) (by rfl) ?yaa4 hS ?naa4
            case yaa4 => (intro w9 _; go_simp; try with_reducible rfl)
            refine wpAnyM_take (i := 5) (v := ?vaa5) hB rfl (by kernel_rfl) (fun _ _ _ h => h) (by rfl) ?yaa5 hS ?naa5
            case yaa5 => (intro w9 _; go_simp; try with_reducible rfl)
            refine wpAnyM_take (i := 6) (v := .int .i64 ((k + 1 : Nat) : Int)) hB rfl (by kernel_rfl) (fun _ _ _ h => h) (by rfl) ?yaa6 hS ?naa6
            case yaa6 => (intro w9 _; go_simp; first | done | rw [hwk] | rw [hwk2])
            refine wpAnyM_take (i := 7) (v := .slice (some ⟨gv, 0, none⟩) 0 0) hB rfl (by kernel_rfl) (fun _ _ _ h => h) (by rfl) ?yaa7 hS ?naa7
            case yaa7 => (intro w9 _; go_simp; (try simp); first | done | (intro h; exfalso; omega) | (intro h; exfalso; have h9 := h (by omega); omega))
            refine wpAnyM_one (i := 3) rfl (by kernel_rfl) rfl ?_
            clear hS
            go_wp2_with fail
            refine (HCK.out _ (Grows.refl w7).drew).mono ?_
            rintro e w8 ⟨v8, rfl, hv8, g8⟩
            have G78 : Hid (Grows w7 w8) := (Grows.refl w7).drew.trans g8
            have O8 : Hid (OwnE w8 w7.heap.size v8 (L.take k)) := hv8
            clear g8 hv8
            go_wp2_with fail
            refine wpAnyM_tail (by kernel_rfl) ?_
            clear hB hwk hwk2
            go_wp2_with (at_builtin; refine appAllE rfl _ _ rfl w7.heap.size v8 (L.take k) rfl O8.out ⟨gv, 0, none⟩ 0 0 (L.drop (k + 1)) rfl (by rw [hdn]; rfl) (by rw [hdn]; exact EntsAt.nil _ _) (by rw [List.length_take]; omega) (by omega) G78.out.size ?_)
            intro v9 w9 HO9 HGB
            have G79 : Hid (Grows w7 w9) := G78.out.mark HGB.out (fun x hx => (O8.out.lt x hx).1)
            have hbs : w.heap.size + 2 ≤ w7.heap.size := by have := Z7.out.lt; omega
            have O9 := Lib.hid (HO9.out.less hbs)
            have R9 := Lib.hid (R7.out.keep G79.out)
            have Z9 := Lib.hid (Z7.out.keep G79.out)
            have G9 : Hid (w.grownBy w9 (some g)) := gb_grows G7.out G79.out
            have HPS := Lib.hid (cutK_short HS.out k (k + 1))
            have hpl : (L.take k ++ L.drop (k + 1)).length ≤ k + 1 := by rw [List.length_append, List.length_take, List.length_drop, HM.out]; omega
            clear HO9 HGB O8 G78 G79
            go_wp2
            go_roundw
            case rel => exact ⟨y - 1, L.take k ++ L.drop (k + 1), q5 + 1, by go_num, by omega, by omega, by omega, by omega, by omega, (by first | exact HPS.out | (unfold Hid; rw [hdn, List.append_nil]; exact HPS.out)), (by first | exact O9.out | (unfold Hid; rw [hdn, List.append_nil]; exact O9.out)), R9.out, Z9.out, G9.out⟩
            case measure => (simp [intOf]; try omega)
          · have hki : (k : Int) ≤ (c9 : Int) := by omega
            have hcy : ¬ k + 1 = c9 := fun e => hcx e.symm
            go_wp2_with fail
            refine wp_region_M 8 (fun _ => True) (by kernel_rfl) (by kernel_rfl) trivial (fun hB hS => ?_)
            refine wpAnyM_take (i := 0) (v := ?vab0) hB rfl (by kernel_rfl) (fun _ _ _ h => h) (by rfl) ?yab0 hS ?nab0
            case yab0 => (intro w9 _; go_simp; try with_reducible rfl)
            refine wpAnyM_take (i := 1) (v := ?vab1) hB rfl (by kernel_rfl) (fun _ _ _ h => h) (by rfl) ?yab1 hS ?nab1
            case yab1 => (intro w9 _; go_simp; try with_reducible rfl)
            refine wpAnyM_take (i := 2) (v := .slice (some ⟨gv, 0, none⟩) k c9) hB rfl (by kernel_rfl) (fun _ _ _ h => h) (by rfl) ?yab2 hS ?nab2
            case yab2 => (intro w9 _; go_simp; first | done | (split <;> first | rfl | (exfalso; omega)) | simp [hkc, hki])
            refine wpAnyM_take (i := 4) (v := ?vab4) hB rfl (by kernel_rfl) (fun _ _ _ h => h) (by rfl) ?yab4 hS ?nab4
            case yab4 => (intro w9 _; go_simp; try with_reducible rfl)
            refine wpAnyM_take (i := 5) (v := ?vab5) hB rfl (by kernel_rfl) (fun _ _ _ h => h) (by rfl) ?yab5 hS ?nab5
            case yab5 => (intro w9 _; go_simp; try with_reducible rfl)
            refine wpAnyM_take (i := 6) (v := .int .i64 ((k + 1 : Nat) : Int)) hB rfl (by kernel_rfl) (fun _ _ _ h => h) (by rfl) ?yab6 hS ?nab6
            case yab6 => (intro w9 _; go_simp; first | done | rw [hwk] | rw [hwk2])
            refine wpAnyM_take (i := 7) (v := .slice (some ⟨gv, (k + 1) * 4, none⟩) (m - (k + 1)) (c9 - (k + 1))) hB rfl (by kernel_rfl) (fun _ _ _ h => h) (by rfl) ?yab7 hS ?nab7
            case yab7 => (intro w9 _; go_simp; (try simp [hcx, hcy]); first | done | (intro h; exfalso; omega) | (intro h; exfalso; have h9 := h (by omega); omega))
            refine wpAnyM_one (i := 3) rfl (by kernel_rfl) rfl ?_
            clear hS
            go_wp2_with fail
            refine (HCK.out _ (Grows.refl w7).drew).mono ?_
            rintro e w8 ⟨v8, rfl, hv8, g8⟩
            have G78 : Hid (Grows w7 w8) := (Grows.refl w7).drew.trans g8
            have O8 : Hid (OwnE w8 w7.heap.size v8 (L.take k)) := hv8
            clear g8 hv8
            go_wp2_with fail
            refine wpAnyM_tail (by kernel_rfl) ?_
            clear hB hwk hwk2
            go_wp2_with (at_builtin; refine appAllE rfl _ _ rfl w7.heap.size v8 (L.take k) rfl O8.out ⟨gv, (k + 1) * 4, none⟩ (m - (k + 1)) (c9 - (k + 1)) (L.drop (k + 1)) rfl HDL.out (HDE.out _ G78.out) (by rw [List.length_take]; omega) (by omega) G78.out.size ?_)
            intro v9 w9 HO9 HGB
            have G79 : Hid (Grows w7 w9) := G78.out.mark HGB.out (fun x hx => (O8.out.lt x hx).1)
            have hbs : w.heap.size + 2 ≤ w7.heap.size := by have := Z7.out.lt; omega
            have O9 := Lib.hid (HO9.out.less hbs)
            have R9 := Lib.hid (R7.out.keep G79.out)
            have Z9 := Lib.hid (Z7.out.keep G79.out)
            have G9 : Hid (w.grownBy w9 (some g)) := gb_grows G7.out G79.out
            have HPS := Lib.hid (cutK_short HS.out k (k + 1))
            have hpl : (L.take k ++ L.drop (k + 1)).length ≤ m := by rw [List.length_append, List.length_take, List.length_drop, HM.out]; omega
            clear HO9 HGB O8 G78 G79
            go_wp2
            go_roundw
            case rel => exact ⟨y - 1, L.take k ++ L.drop (k + 1), q5 + 1, by go_num, by omega, by omega, by omega, by omega, by omega, (by first | exact HPS.out | (unfold Hid; rw [hdn, List.append_nil]; exact HPS.out)), (by first | exact O9.out | (unfold Hid; rw [hdn, List.append_nil]; exact O9.out)), R9.out, Z9.out, G9.out⟩
            case measure => (simp [intOf]; try omega)
        · have hzb : (z == 0) = false := by rw [beq_eq_false_iff_ne]; exact hz
          clear hz
          go_wp2_with fail
          refine (pick_any 2 g A n c (q5 + 1) _ (by omega) (by omega) (by omega) hn R7.out).mono ?_
          rintro e w8 ⟨z2, rfl, _, _, r8, k8⟩
          have BE8 := Lib.hid (BE7.out.far k8 (fun e => by injection e with e; omega))
          have R8 := Lib.hid r8
          have O8 := Lib.hid (O7.out.far k8 (fun k hk e => by injection e with e; have := (O7.out.lt k hk).1; omega))
          have Z8 := Lib.hid (Z7.out.far k8 (by intro e; injection e with e; omega))
          have G8 : Hid (w.grownBy w8 (some g)) := G7.out.trans k8
          clear r8 k8 BE7 R7 O7 Z7 G7
          by_cases hz2 : z2 = 0
          · subst hz2
            obtain ⟨gv, cv, hv9, hg0, hg1⟩ := O8.out.row2 (by rw [HM.out]; omega)
            injection hv9 with hv1 hv2 hv3
            subst hv1
            clear hv2 hv3
            have hkL : k < L.length := by rw [HM.out]; exact hkm
            obtain ⟨u3, e3⟩ := O8.out.some_ HM.out hkL (d := 3) (by decide)
            have f3 := O8.out.free (k * 4 + 3)
            have b3 := BE8.out.at3
            simp only at b3
            have O9 : Hid (OwnE (w8.setCell ⟨gv, k * 4 + 3, none⟩ (.string s3)) (w.heap.size + 2) (.slice (some ⟨gv, 0, none⟩) m c9) (L.set k ⟨L[k].s, L[k].k, L[k].op, s3⟩)) := O8.out.field HM.out hkL 3 (by decide) (.string s3) rfl
            have hgg : gv ≠ g := by have := hg0; omega
            have R9 : Hid (Rd (w8.setCell ⟨gv, k * 4 + 3, none⟩ (.string s3)) g A n c (q5 + 1 + 1)) := H0.out.setNew R8.out (by omega) _ _
            have Z9 := Lib.hid (Z8.out.far (gb_set (World.grownBy.refl w8 (some gv)) (k * 4 + 3) (.string s3)) (by intro e; injection e with e; omega))
            have G9 : Hid (w.grownBy (w8.setCell ⟨gv, k * 4 + 3, none⟩ (.string s3)) (some g)) := gb_new G8.out (by omega) _ _
            have HES9 : Hid ((⟨L[k].s, L[k].k, L[k].op, s3⟩ : Ent).short) := by
              obtain ⟨t1, t2, t3, t4⟩ := HS.out L[k] (List.getElem_mem hkL)
              exact ⟨t1, t2, HS3.out, t4⟩
            have HPS := Lib.hid (setV_short HS.out k HES9.out)
            have hsl : (L.set k ⟨L[k].s, L[k].k, L[k].op, s3⟩).length = m := by rw [List.length_set]; exact HM.out
            clear BE8 O8 R8 Z8 G8
            go_wp2
            go_roundw
            case rel => exact ⟨y - 1, _, q5 + 1 + 1, by go_num, by omega, by omega, by omega, by omega, by omega, HPS.out, O9.out, R9.out, Z9.out, G9.out⟩
            case measure => (simp [intOf]; try omega)
          · have hzb2 : (z2 == 0) = false := by rw [beq_eq_false_iff_ne]; exact hz2
            clear hz2
            have b0 := BE8.out.at0
            have b1 := BE8.out.at1
            have b2 := BE8.out.at2
            have b3 := BE8.out.at3
            simp only at b0 b1 b2 b3
            go_wp2_with fail
            refine (putC_any A9 m c9 _ L s1 s2 s3 _ (by have := HM.out; omega) O8.out).mono ?_
            rintro e w9 ⟨v9, rfl, hv9, g9⟩
            have hbs : w.heap.size + 2 ≤ w8.heap.size := by have := Z8.out.lt; omega
            have O9 : Hid (OwnE w9 (w.heap.size + 2) v9 (putR L ⟨s1, s2, 0, s3⟩)) := hv9.less hbs
            have R9 := Lib.hid (R8.out.keep g9)
            have Z9 := Lib.hid (Z8.out.keep g9)
            have G9 : Hid (w.grownBy w9 (some g)) := gb_grows G8.out g9
            have hpl := putR_len L ⟨s1, s2, 0, s3⟩
            have hpl2 : (putR L ⟨s1, s2, 0, s3⟩).length ≤ m + 1 := by have := HM.out; omega
            have HPS := Lib.hid (putR_short HS.out HES.out)
            clear hv9 g9 hpl b0 b1 b2 b3 BE8
            go_wp2
            go_roundw
            case rel => exact ⟨y - 1, _, q5 + 1 + 1, by go_num, by omega, by omega, by omega, by omega, by omega, HPS.out, O9.out, R9.out, Z9.out, G9.out⟩
            case measure => (simp [intOf]; try omega)
      · have hkmi : ¬ (k : Int) < (m : Int) := by omega
        have b0 := BE6.out.at0
        have b1 := BE6.out.at1
        have b2 := BE6.out.at2
        have b3 := BE6.out.at3
        simp only at b0 b1 b2 b3
        go_wp2_with fail
        refine (putC_any A9 m c9 _ L s1 s2 s3 _ (by have := HM.out; omega) O6.out).mono ?_
        rintro e w9 ⟨v9, rfl, hv9, g9⟩
        have hbs : w.heap.size + 2 ≤ w6.heap.size := by have := Z6.out.lt; omega
        have O9 : Hid (OwnE w9 (w.heap.size + 2) v9 (putR L ⟨s1, s2, 0, s3⟩)) := hv9.less hbs
        have R9 := Lib.hid (R6.out.keep g9)
        have Z9 := Lib.hid (Z6.out.keep g9)
        have G9 : Hid (w.grownBy w9 (some g)) := gb_grows G6.out g9
        have hpl := putR_len L ⟨s1, s2, 0, s3⟩
        have hpl2 : (putR L ⟨s1, s2, 0, s3⟩).length ≤ m + 1 := by have := HM.out; omega
        have HPS := Lib.hid (putR_short HS.out HES.out)
        clear hv9 g9 hpl b0 b1 b2 b3 BE6
        go_wp2
        go_roundw
        case rel => exact ⟨y - 1, _, q5, by go_num, by omega, by omega, by omega, by omega, by omega, HPS.out, O9.out, R9.out, Z9.out, G9.out⟩
        case measure => (simp [intOf]; try omega)
    · obtain rfl : y = 0 := by omega
      have z0 := HZ.out.cell
      have zf := HZ.out.free
      have HZf : Hid (Box (wr.setCell ⟨w.heap.size + 1, 0, none⟩ (.slice A9 m c9)) (w.heap.size + 1) (.slice A9 m c9) 25) := HZ.out.set_ _
      have HN9 : Hid ((Value.slice A9 m c9).ownBlock ≠ some (w.heap.size + 1)) := fun e => by have := (HO.out.lt _ e).1; omega
      have HOF := Lib.hid ((HO.out.setFar (i := 0) HN9.out (.slice A9 m c9)).less (show w.heap.size ≤ w.heap.size + 2 by omega))
      have HGF : Hid (w.grownBy (wr.setCell ⟨w.heap.size + 1, 0, none⟩ (.slice A9 m c9)) (some g)) := gb_new HG.out (by omega) 0 _
      have HRF : Hid (Rd (wr.setCell ⟨w.heap.size + 1, 0, none⟩ (.slice A9 m c9)) g A n c q) := H0.out.setNew HRd.out (by omega) 0 _
      have hL4 : L.length ≤ 104 := by have := HM.out; omega
      go_wp2
      obtain ⟨wf, hwf⟩ : ∃ wf, wr.setCell ⟨w.heap.size + 1, 0, none⟩ (.slice A9 m c9) = wf := ⟨_, rfl⟩
      rw [hwf] at HZf HOF HGF HRF ⊢
      clear hwf z0 zf
      have hz := HZf.out.cell
      refine bodyPost_ret (v := .agg #[.slice A9 m c9]) (by simp [results, Tryd.results31, go_sem, hz]) rfl ?_
      exact ⟨_, L, rfl, HS.out, hL4, HOF.out, ⟨q, by omega, by omega, HRF.out, HGF.out⟩⟩
end Go.Proofs.YtkjoolmhcfajnaaDoor
