/-
  The drawn law of IsFlat: whatever its bytes, it returns true. Condition: no more bytes than a slice may have.
-/
import Derived.Test.YtnkggfcibbchdaaDoorFltX
import Derived.Test.YtnkggfcibbchdaaDoorGFlat
import Derived.Test.YtnkggfcibbchdaaDoorLayH
namespace Go.Proofs.YtnkggfcibbchdaaDoor
open Go.RowKit

set_option maxRecDepth 100000 in
set_option maxHeartbeats 8000000 in
theorem dFlat_any (A : Option Addr) (n c : Nat) (w : World) (hn : n ≤ maxLen) (hc : n ≤ c) (h : BytesAt w A n) :
    Calls Tryd.prog 4 #[.slice A n c] w fun e w' => e = .returned (.bool true) ∧ Below w.heap.size w w' := by
  by_cases hbig : 1048576 < n
  · clear h
    unfold maxLen at hn
    go_enter Tryd.func4, Tryd.ntmps4
    go_wp2
    go_ret
    exact ⟨rfl, (Grows.refl _).below⟩
  · have HD := Lib.hid (DrawIsFlat_any A n c w hn hc h)
    clear h
    unfold maxLen at hn
    go_enter Tryd.func4, Tryd.ntmps4
    go_wp2_with fail
    refine (HD.out).mono ?_
    rintro e w1 ⟨v, K, rfl, ⟨hS, hK⟩, hO, g1⟩
    obtain ⟨A0, n0, c0, rfl⟩ := hO.form3
    have hf := hS.fit hK
    obtain ⟨P, hP⟩ : ∃ P, flatL [K] = P := ⟨_, rfl⟩
    obtain ⟨γ, hγ⟩ : ∃ γ, flatB [K] = γ := ⟨_, rfl⟩
    obtain ⟨β, hβ⟩ : ∃ β, vflat K = β := ⟨_, rfl⟩
    obtain ⟨δ, hδ⟩ : ∃ δ, vflat P = δ := ⟨_, rfl⟩
    have hfP : EFit P := hP ▸ flatL_fit [K]
    have H1 : Hid (β = true → γ = true ∧ P = K) := fun e => by
      obtain ⟨a, b⟩ := flat_own (hβ.trans e)
      exact ⟨hγ ▸ a, hP ▸ b⟩
    have H2 : Hid (γ = true → δ = true) := fun e => by
      rw [← hδ, ← hP]
      exact flat_flat (hγ.trans e)
    have HF1 := Lib.hid (fun (v : Value) (b : Nat) (w2 : World) (h1 : OwnE w2 b v K) => implFlat_own v b K w2 hf h1)
    have HF2 := Lib.hid (fun (v : Value) (b : Nat) (w2 : World) (h1 : OwnE w2 b v K) => specFlat_own v b K w2 hf h1)
    have HF3 := Lib.hid (fun (v : Value) (b : Nat) (w2 : World) (h1 : OwnE w2 b v P) => implFlat_own v b P w2 hfP h1)
    have HFL := Lib.hid (fun (v : Value) (b g : Nat) (w2 : World) (h1 : OwnE w2 b v K) (hc : w2.cell? ⟨g, 0, none⟩ = some v) (hg : g < w2.heap.size) => implFlatten1_own v b g K w2 hf h1 hc hg)
    rw [hβ] at HF1 HF2
    rw [hδ] at HF3
    rw [hP, hγ] at HFL
    unfold ResEB at HFL
    have hP20 : P.length ≤ 1048576 := hfP.1
    have O0_1 := Lib.hid hO
    have T1 : Hid (Grows w1 w1) := Grows.refl _
    have HG1 := Lib.hid g1
    clear hS hO hK g1 hf HD hfP hP hβ hγ hδ
    go_upto_region 4 with (fail)
    have X3_2 : Hid (Box (w1.alloc (.cells #[.slice A0 n0 c0] 25)) w1.heap.size (.slice A0 n0 c0) 25) := heap_alloc_new w1 _
    have gq : Grows w1 (w1.alloc (.cells #[.slice A0 n0 c0] 25)) := (Grows.refl _).alloc _
    obtain ⟨w2, hw2⟩ : ∃ w', (w1.alloc (.cells #[.slice A0 n0 c0] 25)) = w' := ⟨_, rfl⟩
    rw [hw2] at X3_2 gq ⊢
    clear hw2
    have T2 : Hid (Grows w1 w2) := T1.out.trans gq
    have O0_2 := Lib.hid (O0_1.out.keep gq)
    clear O0_1 T1
    clear gq
    have cX3 := X3_2.out.cell
    go_wp2_with fail
    refine (HF1.out _ _ _ O0_2.out).mono ?_
    rintro e w3 ⟨rfl, gq⟩
    clear cX3
    have T3 : Hid (Grows w1 w3) := T2.out.trans gq
    have O0_3 := Lib.hid (O0_2.out.keep gq)
    have X3_3 := Lib.hid (X3_2.out.keep gq)
    clear O0_2 X3_2 T2
    clear gq
    have cX3 := X3_3.out.cell
    go_wp2_with fail
    refine (HF2.out _ _ _ O0_3.out).mono ?_
    rintro e w4 ⟨rfl, gq⟩
    clear cX3
    have T4 : Hid (Grows w1 w4) := T3.out.trans gq
    have O0_4 := Lib.hid (O0_3.out.keep gq)
    have X3_4 := Lib.hid (X3_3.out.keep gq)
    clear O0_3 X3_3 T3
    clear gq
    have hne : (β != β) = false := bne_self_eq_false β
    go_upto_region 7 with (fail)
    have cX3 := X3_4.out.cell
    go_wp2_with fail
    refine (oneL_any A0 n0 c0 _).mono ?_
    rintro e w5 ⟨g3, rfl, hc3, _, hg3, gq⟩
    clear cX3
    have T5 : Hid (Grows w1 w5) := T4.out.trans gq
    have O0_5 := Lib.hid (O0_4.out.keep gq)
    have X3_5 := Lib.hid (X3_4.out.keep gq)
    clear O0_4 X3_4 T4
    clear gq
    go_wp2_with fail
    refine (HFL.out _ _ g3 _ O0_5.out hc3 hg3).mono ?_
    rintro e w6 ⟨u, rfl, hu, gq⟩
    clear hc3 hg3
    have T6 : Hid (Grows w1 w6) := T5.out.trans gq
    have O0_6 := Lib.hid (O0_5.out.keep gq)
    have X3_6 := Lib.hid (X3_5.out.keep gq)
    clear O0_5 X3_5 T5
    clear gq
    obtain ⟨AO4, nO4, cO4, hu'⟩ := OwnE.form3 hu
    subst hu'
    have O4_6 := Lib.hid hu
    clear hu
    go_upto_region 8 with (fail)
    have X5_7 : Hid (Box (w6.alloc (.cells #[(.slice AO4 nO4 cO4)] 25)) w6.heap.size (.slice AO4 nO4 cO4) 25) := heap_alloc_new w6 _
    have gq : Grows w6 (w6.alloc (.cells #[(.slice AO4 nO4 cO4)] 25)) := (Grows.refl _).alloc _
    obtain ⟨w7, hw7⟩ : ∃ w', (w6.alloc (.cells #[(.slice AO4 nO4 cO4)] 25)) = w' := ⟨_, rfl⟩
    rw [hw7] at X5_7 gq ⊢
    clear hw7
    have T7 : Hid (Grows w1 w7) := T6.out.trans gq
    have O0_7 := Lib.hid (O0_6.out.keep gq)
    have X3_7 := Lib.hid (X3_6.out.keep gq)
    have O4_7 := Lib.hid (O4_6.out.keep gq)
    clear O0_6 X3_6 O4_6 T6
    clear gq
    obtain ⟨b_X5, hbb⟩ : ∃ b, w6.heap.size = b := ⟨_, rfl⟩
    rw [hbb] at X5_7 ⊢
    clear hbb
    rcases γ with _ | _
    · have hb : β = false := by
        rcases hb : β with _ | _
        · rfl
        · have := (H1.out hb).1; cases this
      subst hb
      go_wp2
      go_ret
      exact ⟨rfl, (HG1.out.trans T7.out).below⟩
    · rcases β with _ | _
      · have hd : δ = true := H2.out (by simp)
        subst hd
        have cX5 := X5_7.out.cell
        go_wp2_with fail
        refine (HF3.out _ _ _ O4_7.out).mono ?_
        rintro e w8 ⟨rfl, gq⟩
        clear cX5
        have T8 : Hid (Grows w1 w8) := T7.out.trans gq
        have O0_8 := Lib.hid (O0_7.out.keep gq)
        have X3_8 := Lib.hid (X3_7.out.keep gq)
        have O4_8 := Lib.hid (O4_7.out.keep gq)
        have X5_8 := Lib.hid (X5_7.out.keep gq)
        clear O0_7 X3_7 O4_7 X5_7 T7
        clear gq
        go_wp2
        go_ret
        exact ⟨rfl, (HG1.out.trans T8.out).below⟩
      · have hd : δ = true := H2.out (by simp)
        subst hd
        obtain rfl : P = K := (H1.out rfl).2
        have cX5 := X5_7.out.cell
        go_wp2_with fail
        refine (HF3.out _ _ _ O4_7.out).mono ?_
        rintro e w8 ⟨rfl, gq⟩
        clear cX5
        have T8 : Hid (Grows w1 w8) := T7.out.trans gq
        have O0_8 := Lib.hid (O0_7.out.keep gq)
        have X3_8 := Lib.hid (X3_7.out.keep gq)
        have O4_8 := Lib.hid (O4_7.out.keep gq)
        have X5_8 := Lib.hid (X5_7.out.keep gq)
        clear O0_7 X3_7 O4_7 X5_7 T7
        clear gq
        have cX5 := X5_8.out.cell
        have cX3 := X3_8.out.cell
        go_wp2_with fail
        refine (equalLayer_own _ _ _ _ P _ hP20 O4_8.out O0_8.out).mono ?_
        rintro e w9 ⟨rfl, gq⟩
        clear cX5
        clear cX3
        have T9 : Hid (Grows w1 w9) := T8.out.trans gq
        have O0_9 := Lib.hid (O0_8.out.keep gq)
        have X3_9 := Lib.hid (X3_8.out.keep gq)
        have O4_9 := Lib.hid (O4_8.out.keep gq)
        have X5_9 := Lib.hid (X5_8.out.keep gq)
        clear O0_8 X3_8 O4_8 X5_8 T8
        clear gq
        go_wp2
        go_ret
        exact ⟨rfl, (HG1.out.trans T9.out).below⟩
end Go.Proofs.YtnkggfcibbchdaaDoor
