/-
  The drawn law of MergeLayers, three of them: whatever its bytes, it returns true. Condition: no more bytes than a slice may have.
-/
import Derived.Test.YtkbpcdhgicecfaaDoorDrwT
import Derived.Test.YtkbpcdhgicecfaaDoorMrgM
import Derived.Test.YtkbpcdhgicecfaaDoorMrgI
import Derived.Test.YtkbpcdhgicecfaaDoorMrgX
import Derived.Test.YtkbpcdhgicecfaaDoorLayH
namespace Go.Proofs.YtkbpcdhgicecfaaDoor
open Go.RowKit

theorem implMrg_own (v u : Value) (b1 b2 : Nat) (xs bs : List Ent) (w : World) (hf : EFit xs) (hg : EFit bs) (h1 : OwnE w b1 v xs) (h2 : OwnE w b2 u bs) :
    Calls Tryd.prog 6 #[.agg #[v], .agg #[u]] w (ResEB (mergeL xs bs) (mergeB xs bs) w) := by
  obtain ⟨A, c, rfl, hc, hA⟩ := h1.formC
  obtain ⟨B, d, rfl, hd, hB⟩ := h2.formC
  exact implMrg_any A c xs B d bs w hc hd hf hA hg hB
theorem specMrg_own (v u : Value) (b1 b2 : Nat) (xs bs : List Ent) (w : World) (hf : EFit xs) (hg : EFit bs) (h1 : OwnE w b1 v xs) (h2 : OwnE w b2 u bs) :
    Calls Tryd.prog 7 #[.agg #[v], .agg #[u]] w (ResEB (mergeL xs bs) (mergeB xs bs) w) := by
  obtain ⟨A, c, rfl, hc, hA⟩ := h1.formC
  obtain ⟨B, d, rfl, hd, hB⟩ := h2.formC
  exact specMrg_any A c xs B d bs w hc hd hf hA hg hB
theorem implSame_own (v u : Value) (b1 b2 : Nat) (xs bs : List Ent) (w : World) (hf : EFit xs) (hg : EFit bs) (h1 : OwnE w b1 v xs) (h2 : OwnE w b2 u bs) :
    Calls Tryd.prog 9 #[.agg #[v], .agg #[u]] w fun e w' => e = .returned (.bool (sameL xs bs)) ∧ Grows w w' := by
  obtain ⟨A, c, rfl, hc, hA⟩ := h1.formC
  obtain ⟨B, d, rfl, hd, hB⟩ := h2.formC
  exact implSame_any A c xs B d bs w hf hA hg hB
theorem efit_nil : EFit [] := ⟨Nat.zero_le _, fun _ h => absurd h (Nat.not_lt_zero _)⟩
theorem mergeL_fit (xs bs : List Ent) : EFit (mergeL xs bs) := by
  unfold mergeL
  split
  · rename_i h
    unfold chkE
    split
    · exact mergeR_fit h.1 h.2
    · exact efit_nil
  · exact efit_nil
/-- the law's third layer -/
def third : List Ent := [⟨⟨#[97]⟩, ⟨#[120]⟩, 2, ⟨#[109]⟩⟩, ⟨⟨#[]⟩, ⟨#[121]⟩, 0, ⟨#[110]⟩⟩, ⟨⟨#[98]⟩, ⟨#[122]⟩, 1, ⟨#[]⟩⟩]
theorem third_fit : EFit third := by
  have h0 : (⟨#[]⟩ : ByteArray).size = 0 := rfl
  have h1 : (⟨#[97]⟩ : ByteArray).size = 1 := rfl
  have h2 : (⟨#[120]⟩ : ByteArray).size = 1 := rfl
  have h3 : (⟨#[109]⟩ : ByteArray).size = 1 := rfl
  have h4 : (⟨#[121]⟩ : ByteArray).size = 1 := rfl
  have h5 : (⟨#[110]⟩ : ByteArray).size = 1 := rfl
  have h6 : (⟨#[98]⟩ : ByteArray).size = 1 := rfl
  have h7 : (⟨#[122]⟩ : ByteArray).size = 1 := rfl
  refine ⟨by show 3 ≤ 1048576; omega, fun i hi => ?_⟩
  have hi' : i < 3 := hi
  match i, hi' with
  | 0, _ => exact ⟨by show (⟨#[97]⟩ : ByteArray).size ≤ 1048576; omega, by show (⟨#[120]⟩ : ByteArray).size ≤ 1048576; omega, by show (⟨#[109]⟩ : ByteArray).size ≤ 1048576; omega⟩
  | 1, _ => exact ⟨by show (⟨#[]⟩ : ByteArray).size ≤ 1048576; omega, by show (⟨#[121]⟩ : ByteArray).size ≤ 1048576; omega, by show (⟨#[110]⟩ : ByteArray).size ≤ 1048576; omega⟩
  | 2, _ => exact ⟨by show (⟨#[98]⟩ : ByteArray).size ≤ 1048576; omega, by show (⟨#[122]⟩ : ByteArray).size ≤ 1048576; omega, by show (⟨#[]⟩ : ByteArray).size ≤ 1048576; omega⟩
theorem third_own (w : World) (base : Nat) (hb : base ≤ w.heap.size) : OwnE (w.alloc (.cells #[.string ⟨#[97]⟩, .string ⟨#[120]⟩, .int .i64 2, .string ⟨#[109]⟩, .string ⟨#[]⟩, .string ⟨#[121]⟩, .int .i64 0, .string ⟨#[110]⟩, .string ⟨#[98]⟩, .string ⟨#[122]⟩, .int .i64 1, .string ⟨#[]⟩] 32)) base (.slice (some ⟨w.heap.size, 0, none⟩) 3 3) third :=
  World.ownsRow_lit w #[.string ⟨#[97]⟩, .string ⟨#[120]⟩, .int .i64 2, .string ⟨#[109]⟩, .string ⟨#[]⟩, .string ⟨#[121]⟩, .int .i64 0, .string ⟨#[110]⟩, .string ⟨#[98]⟩, .string ⟨#[122]⟩, .int .i64 1, .string ⟨#[]⟩] 3 hb (by unfold maxLen; omega) rfl

set_option maxRecDepth 100000 in
set_option maxHeartbeats 8000000 in
theorem dMrg3_any (A : Option Addr) (n c : Nat) (w : World) (hn : n ≤ maxLen) (hc : n ≤ c) (h : BytesAt w A n) :
    Calls Tryd.prog 3 #[.slice A n c] w fun e w' => e = .returned (.bool true) ∧ Below w.heap.size w w' := by
  by_cases hbig : 1048576 < n
  · clear h
    unfold maxLen at hn
    go_enter Tryd.func3, Tryd.ntmps3
    go_wp2
    go_ret
    exact ⟨rfl, (Grows.refl _).below⟩
  · have HD := Lib.hid (DrawMergeLayers_any A n c w hn hc h)
    clear h
    unfold maxLen at hn
    go_enter Tryd.func3, Tryd.ntmps3
    go_wp2_with fail
    refine (HD.out).mono ?_
    rintro e w1 ⟨v, K, u, L, rfl, ⟨hS, hK⟩, ⟨hT, hL⟩, hO, hQ, g1⟩
    obtain ⟨A0, n0, c0, rfl⟩ := hO.form3
    obtain ⟨B0, d0, e0, rfl⟩ := hQ.form3
    have hf := hS.fit hK
    have hg := hT.fit hL
    obtain ⟨P, hP⟩ : ∃ P, mergeL K L = P := ⟨_, rfl⟩
    obtain ⟨β, hβ⟩ : ∃ β, mergeB K L = β := ⟨_, rfl⟩
    obtain ⟨Ra, hRa⟩ : ∃ P', mergeL third P = P' := ⟨_, rfl⟩
    obtain ⟨βa, hβa⟩ : ∃ β, mergeB third P = β := ⟨_, rfl⟩
    obtain ⟨Rm, hRm⟩ : ∃ P', mergeL third K = P' := ⟨_, rfl⟩
    obtain ⟨βm, hβm⟩ : ∃ β, mergeB third K = β := ⟨_, rfl⟩
    obtain ⟨Rb, hRb⟩ : ∃ P', mergeL Rm L = P' := ⟨_, rfl⟩
    obtain ⟨βb, hβb⟩ : ∃ β, mergeB Rm L = β := ⟨_, rfl⟩
    have hfP : EFit P := hP ▸ mergeL_fit K L
    have hfm : EFit Rm := hRm ▸ mergeL_fit third K
    have hfa : EFit Ra := hRa ▸ mergeL_fit third P
    have hfb : EFit Rb := hRb ▸ mergeL_fit Rm L
    have HM1 := Lib.hid (fun (v u : Value) (b1 b2 : Nat) (w2 : World) (h1 : OwnE w2 b1 v K) (h2 : OwnE w2 b2 u L) => implMrg_own v u b1 b2 K L w2 hf hg h1 h2)
    have HM2 := Lib.hid (fun (v u : Value) (b1 b2 : Nat) (w2 : World) (h1 : OwnE w2 b1 v K) (h2 : OwnE w2 b2 u L) => specMrg_own v u b1 b2 K L w2 hf hg h1 h2)
    have HM3 := Lib.hid (fun (v u : Value) (b1 b2 : Nat) (w2 : World) (h1 : OwnE w2 b1 v third) (h2 : OwnE w2 b2 u P) => implMrg_own v u b1 b2 third P w2 third_fit hfP h1 h2)
    have HM4 := Lib.hid (fun (v u : Value) (b1 b2 : Nat) (w2 : World) (h1 : OwnE w2 b1 v third) (h2 : OwnE w2 b2 u K) => implMrg_own v u b1 b2 third K w2 third_fit hf h1 h2)
    have HM5 := Lib.hid (fun (v u : Value) (b1 b2 : Nat) (w2 : World) (h1 : OwnE w2 b1 v Rm) (h2 : OwnE w2 b2 u L) => implMrg_own v u b1 b2 Rm L w2 hfm hg h1 h2)
    have HSA := Lib.hid (fun (v u : Value) (b1 b2 : Nat) (w2 : World) (h1 : OwnE w2 b1 v Ra) (h2 : OwnE w2 b2 u Rb) => implSame_own v u b1 b2 Ra Rb w2 hfa hfb h1 h2)
    have HEND : Hid (β = true → βa = true → βm = true → βb = true → sameL Ra Rb = true) := fun a b c d => by
      have h := merge3_told (T := third) (U := K) (L := L) (hβ.trans a) (by rw [hP]; exact hβa.trans b) (hβm.trans c) (by rw [hRm]; exact hβb.trans d)
      rw [hP, hRm, hRa, hRb] at h
      exact h
    rw [hP, hβ] at HM1 HM2
    rw [hRa, hβa] at HM3
    rw [hRm, hβm] at HM4
    rw [hRb, hβb] at HM5
    unfold ResEB at HM1 HM2 HM3 HM4 HM5
    have hP20 : P.length ≤ 1048576 := hfP.1
    have O0_1 := Lib.hid hO
    have L0_1 := Lib.hid hQ
    have T1 : Hid (Grows w1 w1) := Grows.refl _
    have HG1 := Lib.hid g1
    clear hS hT hO hQ hK hL g1 hf hg HD hfP hfm hfa hfb hP hβ hRa hβa hRm hβm hRb hβb
    go_upto_region 4 with (fail)
    obtain ⟨w2, hw2⟩ : ∃ w', w1.alloc (.cells #[.slice A0 n0 c0] 25) = w' := ⟨_, rfl⟩
    have X3_2 : Hid (Box w2 w1.heap.size (.slice A0 n0 c0) 25) := hw2 ▸ heap_alloc_new w1 _
    have gq : Grows w1 w2 := hw2 ▸ (Grows.refl w1).alloc _
    have hs2 : w2.heap.size = w1.heap.size + 1 := by rw [← hw2]; exact World.size_alloc _ _
    have T2 : Hid (Grows w1 w2) := T1.out.trans gq
    have O0_2 := Lib.hid (O0_1.out.keep gq)
    have L0_2 := Lib.hid (L0_1.out.keep gq)
    clear O0_1 L0_1 T1
    clear gq
    obtain ⟨w3, hw3⟩ : ∃ w', w2.alloc (.cells #[.slice B0 d0 e0] 25) = w' := ⟨_, rfl⟩
    have X4_3 : Hid (Box w3 w2.heap.size (.slice B0 d0 e0) 25) := hw3 ▸ heap_alloc_new w2 _
    have gq : Grows w2 w3 := hw3 ▸ (Grows.refl w2).alloc _
    have T3 : Hid (Grows w1 w3) := T2.out.trans gq
    have O0_3 := Lib.hid (O0_2.out.keep gq)
    have L0_3 := Lib.hid (L0_2.out.keep gq)
    have X3_3 := Lib.hid (X3_2.out.keep gq)
    clear O0_2 L0_2 X3_2 T2
    clear gq
    rw [hw2, hw3]
    rw [hs2] at X4_3
    clear hw2 hw3 hs2
    have cX3 := X3_3.out.cell
    have cX4 := X4_3.out.cell
    go_wp2_with fail
    refine (HM1.out _ _ _ _ _ O0_3.out L0_3.out).mono ?_
    rintro e w4 ⟨u, rfl, hu, gq⟩
    clear cX3
    clear cX4
    have T4 : Hid (Grows w1 w4) := T3.out.trans gq
    have O0_4 := Lib.hid (O0_3.out.keep gq)
    have L0_4 := Lib.hid (L0_3.out.keep gq)
    have X3_4 := Lib.hid (X3_3.out.keep gq)
    have X4_4 := Lib.hid (X4_3.out.keep gq)
    clear O0_3 L0_3 X3_3 X4_3 T3
    clear gq
    obtain ⟨AO4, nO4, cO4, hu'⟩ := OwnE.form3 hu
    subst hu'
    have O4_4 := Lib.hid hu
    clear hu
    go_upto_region 5 with (fail)
    have X5_5 : Hid (Box (w4.alloc (.cells #[(.slice AO4 nO4 cO4)] 25)) w4.heap.size (.slice AO4 nO4 cO4) 25) := heap_alloc_new w4 _
    have gq : Grows w4 (w4.alloc (.cells #[(.slice AO4 nO4 cO4)] 25)) := (Grows.refl _).alloc _
    obtain ⟨w5, hw5⟩ : ∃ w', (w4.alloc (.cells #[(.slice AO4 nO4 cO4)] 25)) = w' := ⟨_, rfl⟩
    rw [hw5] at X5_5 gq ⊢
    clear hw5
    have T5 : Hid (Grows w1 w5) := T4.out.trans gq
    have O0_5 := Lib.hid (O0_4.out.keep gq)
    have L0_5 := Lib.hid (L0_4.out.keep gq)
    have X3_5 := Lib.hid (X3_4.out.keep gq)
    have X4_5 := Lib.hid (X4_4.out.keep gq)
    have O4_5 := Lib.hid (O4_4.out.keep gq)
    clear O0_4 L0_4 X3_4 X4_4 O4_4 T4
    clear gq
    obtain ⟨b_X5, hbb⟩ : ∃ b, w4.heap.size = b := ⟨_, rfl⟩
    rw [hbb] at X5_5 ⊢
    clear hbb
    have cX3 := X3_5.out.cell
    have cX4 := X4_5.out.cell
    go_wp2_with fail
    refine (HM2.out _ _ _ _ _ O0_5.out L0_5.out).mono ?_
    rintro e w6 ⟨u, rfl, hu, gq⟩
    clear cX3
    clear cX4
    have T6 : Hid (Grows w1 w6) := T5.out.trans gq
    have O0_6 := Lib.hid (O0_5.out.keep gq)
    have L0_6 := Lib.hid (L0_5.out.keep gq)
    have X3_6 := Lib.hid (X3_5.out.keep gq)
    have X4_6 := Lib.hid (X4_5.out.keep gq)
    have O4_6 := Lib.hid (O4_5.out.keep gq)
    have X5_6 := Lib.hid (X5_5.out.keep gq)
    clear O0_5 L0_5 X3_5 X4_5 O4_5 X5_5 T5
    clear gq
    obtain ⟨AO5, nO5, cO5, hu'⟩ := OwnE.form3 hu
    subst hu'
    have O5_6 := Lib.hid hu
    clear hu
    go_upto_region 6 with (fail)
    have X7_7 : Hid (Box (w6.alloc (.cells #[(.slice AO5 nO5 cO5)] 25)) w6.heap.size (.slice AO5 nO5 cO5) 25) := heap_alloc_new w6 _
    have gq : Grows w6 (w6.alloc (.cells #[(.slice AO5 nO5 cO5)] 25)) := (Grows.refl _).alloc _
    obtain ⟨w7, hw7⟩ : ∃ w', (w6.alloc (.cells #[(.slice AO5 nO5 cO5)] 25)) = w' := ⟨_, rfl⟩
    rw [hw7] at X7_7 gq ⊢
    clear hw7
    have T7 : Hid (Grows w1 w7) := T6.out.trans gq
    have O0_7 := Lib.hid (O0_6.out.keep gq)
    have L0_7 := Lib.hid (L0_6.out.keep gq)
    have X3_7 := Lib.hid (X3_6.out.keep gq)
    have X4_7 := Lib.hid (X4_6.out.keep gq)
    have O4_7 := Lib.hid (O4_6.out.keep gq)
    have X5_7 := Lib.hid (X5_6.out.keep gq)
    have O5_7 := Lib.hid (O5_6.out.keep gq)
    clear O0_6 L0_6 X3_6 X4_6 O4_6 X5_6 O5_6 T6
    clear gq
    obtain ⟨b_X7, hbb⟩ : ∃ b, w6.heap.size = b := ⟨_, rfl⟩
    rw [hbb] at X7_7 ⊢
    clear hbb
    have cX5 := X5_7.out.cell
    have cX7 := X7_7.out.cell
    go_wp2_with fail
    refine (equalLayer_own _ _ _ _ P _ hP20 O4_7.out O5_7.out).mono ?_
    rintro e w8 ⟨rfl, gq⟩
    clear cX5
    clear cX7
    have T8 : Hid (Grows w1 w8) := T7.out.trans gq
    have O0_8 := Lib.hid (O0_7.out.keep gq)
    have L0_8 := Lib.hid (L0_7.out.keep gq)
    have X3_8 := Lib.hid (X3_7.out.keep gq)
    have X4_8 := Lib.hid (X4_7.out.keep gq)
    have O4_8 := Lib.hid (O4_7.out.keep gq)
    have X5_8 := Lib.hid (X5_7.out.keep gq)
    have O5_8 := Lib.hid (O5_7.out.keep gq)
    have X7_8 := Lib.hid (X7_7.out.keep gq)
    clear O0_7 L0_7 X3_7 X4_7 O4_7 X5_7 O5_7 X7_7 T7
    clear gq
    rcases β with _ | _
    · have cX5 := X5_8.out.cell
      have cX7 := X7_8.out.cell
      go_wp2_with fail
      refine (equalLayer_own _ _ _ _ P _ hP20 O4_8.out O5_8.out).mono ?_
      rintro e w9 ⟨rfl, gq⟩
      clear cX5
      clear cX7
      have T9 : Hid (Grows w1 w9) := T8.out.trans gq
      have O0_9 := Lib.hid (O0_8.out.keep gq)
      have L0_9 := Lib.hid (L0_8.out.keep gq)
      have X3_9 := Lib.hid (X3_8.out.keep gq)
      have X4_9 := Lib.hid (X4_8.out.keep gq)
      have O4_9 := Lib.hid (O4_8.out.keep gq)
      have X5_9 := Lib.hid (X5_8.out.keep gq)
      have O5_9 := Lib.hid (O5_8.out.keep gq)
      have X7_9 := Lib.hid (X7_8.out.keep gq)
      clear O0_8 L0_8 X3_8 X4_8 O4_8 X5_8 O5_8 X7_8 T8
      clear gq
      go_wp2
      go_ret
      exact ⟨rfl, (HG1.out.trans T9.out).below⟩
    · clear X7_8 O5_8 HM1 HM2
      go_upto_region 9 with (fail)
      have Ot_9 : Hid (OwnE (w8.alloc (.cells #[.string ⟨#[97]⟩, .string ⟨#[120]⟩, .int .i64 2, .string ⟨#[109]⟩, .string ⟨#[]⟩, .string ⟨#[121]⟩, .int .i64 0, .string ⟨#[110]⟩, .string ⟨#[98]⟩, .string ⟨#[122]⟩, .int .i64 1, .string ⟨#[]⟩] 32)) w1.heap.size (.slice (some ⟨w8.heap.size, 0, none⟩) 3 3) third) := third_own w8 _ T8.out.size
      have gq : Grows w8 (w8.alloc (.cells #[.string ⟨#[97]⟩, .string ⟨#[120]⟩, .int .i64 2, .string ⟨#[109]⟩, .string ⟨#[]⟩, .string ⟨#[121]⟩, .int .i64 0, .string ⟨#[110]⟩, .string ⟨#[98]⟩, .string ⟨#[122]⟩, .int .i64 1, .string ⟨#[]⟩] 32)) := (Grows.refl _).alloc _
      obtain ⟨w9, hw9⟩ : ∃ w', (w8.alloc (.cells #[.string ⟨#[97]⟩, .string ⟨#[120]⟩, .int .i64 2, .string ⟨#[109]⟩, .string ⟨#[]⟩, .string ⟨#[121]⟩, .int .i64 0, .string ⟨#[110]⟩, .string ⟨#[98]⟩, .string ⟨#[122]⟩, .int .i64 1, .string ⟨#[]⟩] 32)) = w' := ⟨_, rfl⟩
      have hs9 : w9.heap.size = w8.heap.size + 1 := by rw [← hw9]; exact World.size_alloc _ _
      rw [hw9] at Ot_9 gq ⊢
      have T9 : Hid (Grows w1 w9) := T8.out.trans gq
      have O0_9 := Lib.hid (O0_8.out.keep gq)
      have L0_9 := Lib.hid (L0_8.out.keep gq)
      have X3_9 := Lib.hid (X3_8.out.keep gq)
      have X4_9 := Lib.hid (X4_8.out.keep gq)
      have O4_9 := Lib.hid (O4_8.out.keep gq)
      have X5_9 := Lib.hid (X5_8.out.keep gq)
      clear O0_8 L0_8 X3_8 X4_8 O4_8 X5_8 T8
      clear gq
      have X9_10 : Hid (Box (w9.alloc (.cells #[(.slice (some ⟨w8.heap.size, 0, none⟩) 3 3)] 25)) w9.heap.size (.slice (some ⟨w8.heap.size, 0, none⟩) 3 3) 25) := heap_alloc_new w9 _
      have gq : Grows w9 (w9.alloc (.cells #[(.slice (some ⟨w8.heap.size, 0, none⟩) 3 3)] 25)) := (Grows.refl _).alloc _
      obtain ⟨w10, hwx⟩ : ∃ w', (w9.alloc (.cells #[(.slice (some ⟨w8.heap.size, 0, none⟩) 3 3)] 25)) = w' := ⟨_, rfl⟩
      rw [hwx] at X9_10 gq ⊢
      clear hwx hw9
      have T10 : Hid (Grows w1 w10) := T9.out.trans gq
      have O0_10 := Lib.hid (O0_9.out.keep gq)
      have L0_10 := Lib.hid (L0_9.out.keep gq)
      have X3_10 := Lib.hid (X3_9.out.keep gq)
      have X4_10 := Lib.hid (X4_9.out.keep gq)
      have O4_10 := Lib.hid (O4_9.out.keep gq)
      have X5_10 := Lib.hid (X5_9.out.keep gq)
      have Ot_10 := Lib.hid (Ot_9.out.keep gq)
      clear O0_9 L0_9 X3_9 X4_9 O4_9 X5_9 Ot_9 T9
      clear gq
      rw [hs9] at X9_10
      clear hs9
      obtain ⟨b_t, hbt⟩ : ∃ b, w8.heap.size = b := ⟨_, rfl⟩
      rw [hbt] at X9_10 Ot_10 ⊢
      clear hbt
      have cX9 := X9_10.out.cell
      have cX5 := X5_10.out.cell
      go_wp2_with fail
      refine (HM3.out _ _ _ _ _ Ot_10.out O4_10.out).mono ?_
      rintro e w11 ⟨u, rfl, hu, gq⟩
      clear cX9
      clear cX5
      have T11 : Hid (Grows w1 w11) := T10.out.trans gq
      have O0_11 := Lib.hid (O0_10.out.keep gq)
      have L0_11 := Lib.hid (L0_10.out.keep gq)
      have X3_11 := Lib.hid (X3_10.out.keep gq)
      have X4_11 := Lib.hid (X4_10.out.keep gq)
      have O4_11 := Lib.hid (O4_10.out.keep gq)
      have X5_11 := Lib.hid (X5_10.out.keep gq)
      have Ot_11 := Lib.hid (Ot_10.out.keep gq)
      have X9_11 := Lib.hid (X9_10.out.keep gq)
      clear O0_10 L0_10 X3_10 X4_10 O4_10 X5_10 Ot_10 X9_10 T10
      clear gq
      obtain ⟨AOa, nOa, cOa, hu'⟩ := OwnE.form3 hu
      subst hu'
      have Oa_11 := Lib.hid hu
      clear hu
      go_upto_region 10 with (fail)
      have X10_12 : Hid (Box (w11.alloc (.cells #[(.slice AOa nOa cOa)] 25)) w11.heap.size (.slice AOa nOa cOa) 25) := heap_alloc_new w11 _
      have gq : Grows w11 (w11.alloc (.cells #[(.slice AOa nOa cOa)] 25)) := (Grows.refl _).alloc _
      obtain ⟨w12, hw12⟩ : ∃ w', (w11.alloc (.cells #[(.slice AOa nOa cOa)] 25)) = w' := ⟨_, rfl⟩
      rw [hw12] at X10_12 gq ⊢
      clear hw12
      have T12 : Hid (Grows w1 w12) := T11.out.trans gq
      have O0_12 := Lib.hid (O0_11.out.keep gq)
      have L0_12 := Lib.hid (L0_11.out.keep gq)
      have X3_12 := Lib.hid (X3_11.out.keep gq)
      have X4_12 := Lib.hid (X4_11.out.keep gq)
      have O4_12 := Lib.hid (O4_11.out.keep gq)
      have X5_12 := Lib.hid (X5_11.out.keep gq)
      have Ot_12 := Lib.hid (Ot_11.out.keep gq)
      have X9_12 := Lib.hid (X9_11.out.keep gq)
      have Oa_12 := Lib.hid (Oa_11.out.keep gq)
      clear O0_11 L0_11 X3_11 X4_11 O4_11 X5_11 Ot_11 X9_11 Oa_11 T11
      clear gq
      obtain ⟨b_X10, hbb⟩ : ∃ b, w11.heap.size = b := ⟨_, rfl⟩
      rw [hbb] at X10_12 ⊢
      clear hbb
      have cX9 := X9_12.out.cell
      have cX3 := X3_12.out.cell
      go_wp2_with fail
      refine (HM4.out _ _ _ _ _ Ot_12.out O0_12.out).mono ?_
      rintro e w13 ⟨u, rfl, hu, gq⟩
      clear cX9
      clear cX3
      have T13 : Hid (Grows w1 w13) := T12.out.trans gq
      have O0_13 := Lib.hid (O0_12.out.keep gq)
      have L0_13 := Lib.hid (L0_12.out.keep gq)
      have X3_13 := Lib.hid (X3_12.out.keep gq)
      have X4_13 := Lib.hid (X4_12.out.keep gq)
      have O4_13 := Lib.hid (O4_12.out.keep gq)
      have X5_13 := Lib.hid (X5_12.out.keep gq)
      have Ot_13 := Lib.hid (Ot_12.out.keep gq)
      have X9_13 := Lib.hid (X9_12.out.keep gq)
      have Oa_13 := Lib.hid (Oa_12.out.keep gq)
      have X10_13 := Lib.hid (X10_12.out.keep gq)
      clear O0_12 L0_12 X3_12 X4_12 O4_12 X5_12 Ot_12 X9_12 Oa_12 X10_12 T12
      clear gq
      obtain ⟨AOm, nOm, cOm, hu'⟩ := OwnE.form3 hu
      subst hu'
      have Om_13 := Lib.hid hu
      clear hu
      go_upto_region 11 with (fail)
      have X12_14 : Hid (Box (w13.alloc (.cells #[(.slice AOm nOm cOm)] 25)) w13.heap.size (.slice AOm nOm cOm) 25) := heap_alloc_new w13 _
      have gq : Grows w13 (w13.alloc (.cells #[(.slice AOm nOm cOm)] 25)) := (Grows.refl _).alloc _
      obtain ⟨w14, hw14⟩ : ∃ w', (w13.alloc (.cells #[(.slice AOm nOm cOm)] 25)) = w' := ⟨_, rfl⟩
      rw [hw14] at X12_14 gq ⊢
      clear hw14
      have T14 : Hid (Grows w1 w14) := T13.out.trans gq
      have O0_14 := Lib.hid (O0_13.out.keep gq)
      have L0_14 := Lib.hid (L0_13.out.keep gq)
      have X3_14 := Lib.hid (X3_13.out.keep gq)
      have X4_14 := Lib.hid (X4_13.out.keep gq)
      have O4_14 := Lib.hid (O4_13.out.keep gq)
      have X5_14 := Lib.hid (X5_13.out.keep gq)
      have Ot_14 := Lib.hid (Ot_13.out.keep gq)
      have X9_14 := Lib.hid (X9_13.out.keep gq)
      have Oa_14 := Lib.hid (Oa_13.out.keep gq)
      have X10_14 := Lib.hid (X10_13.out.keep gq)
      have Om_14 := Lib.hid (Om_13.out.keep gq)
      clear O0_13 L0_13 X3_13 X4_13 O4_13 X5_13 Ot_13 X9_13 Oa_13 X10_13 Om_13 T13
      clear gq
      obtain ⟨b_X12, hbb⟩ : ∃ b, w13.heap.size = b := ⟨_, rfl⟩
      rw [hbb] at X12_14 ⊢
      clear hbb
      have cX12 := X12_14.out.cell
      have cX4 := X4_14.out.cell
      go_wp2_with fail
      refine (HM5.out _ _ _ _ _ Om_14.out L0_14.out).mono ?_
      rintro e w15 ⟨u, rfl, hu, gq⟩
      clear cX12
      clear cX4
      have T15 : Hid (Grows w1 w15) := T14.out.trans gq
      have O0_15 := Lib.hid (O0_14.out.keep gq)
      have L0_15 := Lib.hid (L0_14.out.keep gq)
      have X3_15 := Lib.hid (X3_14.out.keep gq)
      have X4_15 := Lib.hid (X4_14.out.keep gq)
      have O4_15 := Lib.hid (O4_14.out.keep gq)
      have X5_15 := Lib.hid (X5_14.out.keep gq)
      have Ot_15 := Lib.hid (Ot_14.out.keep gq)
      have X9_15 := Lib.hid (X9_14.out.keep gq)
      have Oa_15 := Lib.hid (Oa_14.out.keep gq)
      have X10_15 := Lib.hid (X10_14.out.keep gq)
      have Om_15 := Lib.hid (Om_14.out.keep gq)
      have X12_15 := Lib.hid (X12_14.out.keep gq)
      clear O0_14 L0_14 X3_14 X4_14 O4_14 X5_14 Ot_14 X9_14 Oa_14 X10_14 Om_14 X12_14 T14
      clear gq
      obtain ⟨AOb, nOb, cOb, hu'⟩ := OwnE.form3 hu
      subst hu'
      have Ob_15 := Lib.hid hu
      clear hu
      go_upto_region 12 with (fail)
      have X14_16 : Hid (Box (w15.alloc (.cells #[(.slice AOb nOb cOb)] 25)) w15.heap.size (.slice AOb nOb cOb) 25) := heap_alloc_new w15 _
      have gq : Grows w15 (w15.alloc (.cells #[(.slice AOb nOb cOb)] 25)) := (Grows.refl _).alloc _
      obtain ⟨w16, hw16⟩ : ∃ w', (w15.alloc (.cells #[(.slice AOb nOb cOb)] 25)) = w' := ⟨_, rfl⟩
      rw [hw16] at X14_16 gq ⊢
      clear hw16
      have T16 : Hid (Grows w1 w16) := T15.out.trans gq
      have O0_16 := Lib.hid (O0_15.out.keep gq)
      have L0_16 := Lib.hid (L0_15.out.keep gq)
      have X3_16 := Lib.hid (X3_15.out.keep gq)
      have X4_16 := Lib.hid (X4_15.out.keep gq)
      have O4_16 := Lib.hid (O4_15.out.keep gq)
      have X5_16 := Lib.hid (X5_15.out.keep gq)
      have Ot_16 := Lib.hid (Ot_15.out.keep gq)
      have X9_16 := Lib.hid (X9_15.out.keep gq)
      have Oa_16 := Lib.hid (Oa_15.out.keep gq)
      have X10_16 := Lib.hid (X10_15.out.keep gq)
      have Om_16 := Lib.hid (Om_15.out.keep gq)
      have X12_16 := Lib.hid (X12_15.out.keep gq)
      have Ob_16 := Lib.hid (Ob_15.out.keep gq)
      clear O0_15 L0_15 X3_15 X4_15 O4_15 X5_15 Ot_15 X9_15 Oa_15 X10_15 Om_15 X12_15 Ob_15 T15
      clear gq
      obtain ⟨b_X14, hbb⟩ : ∃ b, w15.heap.size = b := ⟨_, rfl⟩
      rw [hbb] at X14_16 ⊢
      clear hbb
      rcases βa with _ | _
      · go_wp2
        go_ret
        exact ⟨rfl, (HG1.out.trans T16.out).below⟩
      · rcases βm with _ | _
        · go_wp2
          go_ret
          exact ⟨rfl, (HG1.out.trans T16.out).below⟩
        · rcases βb with _ | _
          · go_wp2
            go_ret
            exact ⟨rfl, (HG1.out.trans T16.out).below⟩
          · have cX10 := X10_16.out.cell
            have cX14 := X14_16.out.cell
            go_wp2_with fail
            refine (HSA.out _ _ _ _ _ Oa_16.out Ob_16.out).mono ?_
            rintro e w17 ⟨rfl, gq⟩
            clear cX10
            clear cX14
            have T17 : Hid (Grows w1 w17) := T16.out.trans gq
            have O0_17 := Lib.hid (O0_16.out.keep gq)
            have L0_17 := Lib.hid (L0_16.out.keep gq)
            have X3_17 := Lib.hid (X3_16.out.keep gq)
            have X4_17 := Lib.hid (X4_16.out.keep gq)
            have O4_17 := Lib.hid (O4_16.out.keep gq)
            have X5_17 := Lib.hid (X5_16.out.keep gq)
            have Ot_17 := Lib.hid (Ot_16.out.keep gq)
            have X9_17 := Lib.hid (X9_16.out.keep gq)
            have Oa_17 := Lib.hid (Oa_16.out.keep gq)
            have X10_17 := Lib.hid (X10_16.out.keep gq)
            have Om_17 := Lib.hid (Om_16.out.keep gq)
            have X12_17 := Lib.hid (X12_16.out.keep gq)
            have Ob_17 := Lib.hid (Ob_16.out.keep gq)
            have X14_17 := Lib.hid (X14_16.out.keep gq)
            clear O0_16 L0_16 X3_16 X4_16 O4_16 X5_16 Ot_16 X9_16 Oa_16 X10_16 Om_16 X12_16 Ob_16 X14_16 T16
            clear gq
            have hend : sameL Ra Rb = true := by have h := HEND.out; simpa using h
            rw [hend]
            clear hend
            go_wp2
            go_ret
            exact ⟨rfl, (HG1.out.trans T17.out).below⟩
end Go.Proofs.YtkbpcdhgicecfaaDoor
