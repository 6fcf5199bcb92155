/-
  The drawn law of CommonLayer: whatever its bytes, it returns true. Condition: no more bytes than a slice may have.
-/
import Derived.Test.YtcecjdjfbgmogaaDoorDrwCm
import Derived.Test.YtcecjdjfbgmogaaDoorComX
import Derived.Test.YtcecjdjfbgmogaaDoorComS
import Derived.Test.YtcecjdjfbgmogaaDoorSameL
import Derived.Test.YtcecjdjfbgmogaaDoorLayH
import Derived.Test.YtcecjdjfbgmogaaDoorRegG
namespace Go.Proofs.YtcecjdjfbgmogaaDoor
open Go.RowKit

theorem fit104 {K : List Ent} (h : ShortE K) (hK : K.length ≤ 104) : EFit K := by
  refine ⟨by omega, fun i hi => ?_⟩
  obtain ⟨h1, h2, h3, _⟩ := h K[i] (List.getElem_mem hi)
  exact ⟨by omega, by omega, by omega⟩
theorem comEC_fit {xs bs : List Ent} (h : EFit xs) : EFit (comE xs bs) := by
  unfold comE
  split
  · unfold keepE
    split
    · refine ⟨Nat.le_trans (List.length_filter_le _ _) h.1, fun i hi => ?_⟩
      obtain ⟨j, hj, e⟩ := List.getElem_of_mem ((List.mem_filter.1 (List.getElem_mem hi)).1)
      rw [← e]
      exact h.2 j hj
    · exact ⟨by simp, fun i hi => absurd hi (by simp)⟩
  · exact ⟨by simp, fun i hi => absurd hi (by simp)⟩
theorem implComC_own (v u : Value) (b1 b2 : Nat) (xs bs : List Ent) (w : World) (hf : EFit xs) (hg : EFit bs) (h1 : OwnE w b1 v xs) (h2 : OwnE w b2 u bs) :
    Calls Tryd.prog 15 #[.agg #[v], .agg #[u]] w (ResE (comE xs bs) w) := by
  obtain ⟨A, c, rfl, hc, hA⟩ := h1.formC
  obtain ⟨B, d, rfl, hd, hB⟩ := h2.formC
  exact implCom_any A c xs B d bs w hf hA hg hB
theorem specComC_own (v u : Value) (b1 b2 : Nat) (xs bs : List Ent) (w : World) (hf : EFit xs) (hg : EFit bs) (h1 : OwnE w b1 v xs) (h2 : OwnE w b2 u bs) :
    Calls Tryd.prog 16 #[.agg #[v], .agg #[u]] w (ResE (comE xs bs) w) := by
  obtain ⟨A, c, rfl, hc, hA⟩ := h1.formC
  obtain ⟨B, d, rfl, hd, hB⟩ := h2.formC
  exact specCom_any A c xs B d bs w hc hd hf hA hg hB
theorem implVLC_own (v : Value) (b : Nat) (es : List Ent) (w : World) (hf : EFit es) (h : OwnE w b v es) :
    Calls Tryd.prog 17 #[.agg #[v]] w fun e w' => e = .returned (.bool (vlayer es)) ∧ Grows w w' := by
  obtain ⟨A, c, rfl, _, hA⟩ := h.formC
  exact implLayer_any A c es w hf hA
theorem implSameK_own (v u : Value) (b1 b2 : Nat) (xs bs : List Ent) (w : World) (hf : EFit xs) (hg : EFit bs) (h1 : OwnE w b1 v xs) (h2 : OwnE w b2 u bs) :
    Calls Tryd.prog 13 #[.agg #[v], .agg #[u]] w fun e w' => e = .returned (.bool (sameL xs bs)) ∧ Grows w w' := by
  obtain ⟨A, c, rfl, hc, hA⟩ := h1.formC
  obtain ⟨B, d, rfl, hd, hB⟩ := h2.formC
  exact implSame_any A c xs B d bs w hf hA hg hB

set_option maxRecDepth 100000 in
set_option maxHeartbeats 8000000 in
theorem dCom_any (A : Option Addr) (n c : Nat) (w : World) (hn : n ≤ maxLen) (hc : n ≤ c) (h : BytesAt w A n) :
    Calls Tryd.prog 4 #[.slice A n c] w fun e w' => e = .returned (.bool true) ∧ Below w.heap.size w w' := by
  by_cases hbig : 1048576 < n
  · clear h
    unfold maxLen at hn
    go_enter Tryd.func4, Tryd.ntmps4
    go_wp2
    go_ret
    exact ⟨rfl, (Grows.refl _).below⟩
  · have HD := Lib.hid (DrawCommonLayer_any A n c w hn hc h)
    clear h
    unfold maxLen at hn
    go_enter Tryd.func4, Tryd.ntmps4
    go_wp2_with fail
    refine (HD.out).mono ?_
    rintro e w1 ⟨v, K, u, L, rfl, ⟨hS, hK⟩, ⟨hT, hL⟩, hO, hQ, g1⟩
    obtain ⟨A0, n0, c0, rfl⟩ := hO.form3
    obtain ⟨B0, d0, e0, rfl⟩ := hQ.form3
    have hf := hS.fit hK
    have hg := fit104 hT hL
    have HCF := Lib.hid (fun (h1 : vlayer K = true) (h2 : vlayer L = true) => (⟨com_flip h1 h2, com_again h1 h2, com_self h1⟩ : sameL (comE L K) (comE K L) = true ∧ comE K (comE K L) = comE K L ∧ comE K K = K))
    have hfM := comEC_fit (bs := L) hf
    have hfN := comEC_fit (bs := K) hg
    have HM1 := Lib.hid (fun (v u : Value) (b1 b2 : Nat) (w2 : World) (h1 : OwnE w2 b1 v K) (h2 : OwnE w2 b2 u L) => implComC_own v u b1 b2 K L w2 hf hg h1 h2)
    have HM2 := Lib.hid (fun (v u : Value) (b1 b2 : Nat) (w2 : World) (h1 : OwnE w2 b1 v K) (h2 : OwnE w2 b2 u L) => specComC_own v u b1 b2 K L w2 hf hg h1 h2)
    have HM3 := Lib.hid (fun (v u : Value) (b1 b2 : Nat) (w2 : World) (h1 : OwnE w2 b1 v L) (h2 : OwnE w2 b2 u K) => implComC_own v u b1 b2 L K w2 hg hf h1 h2)
    have HM5 := Lib.hid (fun (v u : Value) (b1 b2 : Nat) (w2 : World) (h1 : OwnE w2 b1 v K) (h2 : OwnE w2 b2 u K) => implComC_own v u b1 b2 K K w2 hf hf h1 h2)
    obtain ⟨M, hM⟩ : ∃ M, comE K L = M := ⟨_, rfl⟩
    obtain ⟨N, hN⟩ : ∃ N, comE L K = N := ⟨_, rfl⟩
    rw [hM] at HCF hfM HM1 HM2
    rw [hN] at HCF hfN HM3
    have HM4 := Lib.hid (fun (v u : Value) (b1 b2 : Nat) (w2 : World) (h1 : OwnE w2 b1 v K) (h2 : OwnE w2 b2 u M) => implComC_own v u b1 b2 K M w2 hf hfM h1 h2)
    have HSM := Lib.hid (fun (v u : Value) (b1 b2 : Nat) (w2 : World) (h1 : OwnE w2 b1 v N) (h2 : OwnE w2 b2 u M) => implSameK_own v u b1 b2 N M w2 hfN hfM h1 h2)
    have HV1 := Lib.hid (fun (v : Value) (b1 : Nat) (w2 : World) (h1 : OwnE w2 b1 v K) => implVLC_own v b1 K w2 hf h1)
    have HV2 := Lib.hid (fun (v : Value) (b1 : Nat) (w2 : World) (h1 : OwnE w2 b1 v L) => implVLC_own v b1 L w2 hg h1)
    have hM20 : M.length ≤ 1048576 := hfM.1
    have hK20 : K.length ≤ 1048576 := hf.1
    obtain ⟨κ, hκ⟩ : ∃ κ, vlayer K = κ := ⟨_, rfl⟩
    obtain ⟨μ, hμ⟩ : ∃ μ, vlayer L = μ := ⟨_, rfl⟩
    rw [hκ] at HCF HV1
    rw [hμ] at HCF HV2
    unfold ResE at HM1 HM2 HM3 HM4 HM5
    have O0_1 := Lib.hid hO
    have L0_1 := Lib.hid hQ
    have T1 : Hid (Grows w1 w1) := Grows.refl _
    have HG1 := Lib.hid g1
    clear hS hT hO hQ g1 hf hg HD hfM hfN hM hN hκ hμ
    go_upto_region 4 with (fail)
    obtain ⟨w2, hw2⟩ : ∃ w', w1.alloc (.cells #[.slice A0 n0 c0] 25) = w' := ⟨_, rfl⟩
    have X3_2 : Hid (Box w2 w1.heap.size (.slice A0 n0 c0) 25) := hw2 ▸ heap_alloc_new w1 _
    have gq : Grows w1 w2 := hw2 ▸ (Grows.refl w1).alloc _
    have hs2 : w2.heap.size = w1.heap.size + 1 := by rw [← hw2]; exact World.size_alloc _ _
    have T2 : Hid (Grows w1 w2) := T1.out.trans gq
    have O0_2 := Lib.hid (O0_1.out.keep gq)
    have L0_2 := Lib.hid (L0_1.out.keep gq)
    clear O0_1 L0_1 T1
    clear gq
    obtain ⟨w3, hw3⟩ : ∃ w', w2.alloc (.cells #[.slice B0 d0 e0] 25) = w' := ⟨_, rfl⟩
    have X4_3 : Hid (Box w3 w2.heap.size (.slice B0 d0 e0) 25) := hw3 ▸ heap_alloc_new w2 _
    have gq : Grows w2 w3 := hw3 ▸ (Grows.refl w2).alloc _
    have T3 : Hid (Grows w1 w3) := T2.out.trans gq
    have O0_3 := Lib.hid (O0_2.out.keep gq)
    have L0_3 := Lib.hid (L0_2.out.keep gq)
    have X3_3 := Lib.hid (X3_2.out.keep gq)
    clear O0_2 L0_2 X3_2 T2
    clear gq
    rw [hw2, hw3]
    rw [hs2] at X4_3
    clear hw2 hw3 hs2
    have cX3 := X3_3.out.cell
    have cX4 := X4_3.out.cell
    go_wp2_with fail
    refine (HM1.out _ _ _ _ _ O0_3.out L0_3.out).mono ?_
    rintro e w4 ⟨u, rfl, hu, gq⟩
    clear cX3
    clear cX4
    have T4 : Hid (Grows w1 w4) := T3.out.trans gq
    have O0_4 := Lib.hid (O0_3.out.keep gq)
    have L0_4 := Lib.hid (L0_3.out.keep gq)
    have X3_4 := Lib.hid (X3_3.out.keep gq)
    have X4_4 := Lib.hid (X4_3.out.keep gq)
    clear O0_3 L0_3 X3_3 X4_3 T3
    clear gq
    obtain ⟨AO4, nO4, cO4, hu'⟩ := OwnE.form3 hu
    subst hu'
    have O4_4 := Lib.hid hu
    clear hu
    go_upto_region 5 with (fail)
    have X5_5 : Hid (Box (w4.alloc (.cells #[(.slice AO4 nO4 cO4)] 25)) w4.heap.size (.slice AO4 nO4 cO4) 25) := heap_alloc_new w4 _
    have gq : Grows w4 (w4.alloc (.cells #[(.slice AO4 nO4 cO4)] 25)) := (Grows.refl _).alloc _
    obtain ⟨w5, hw5⟩ : ∃ w', (w4.alloc (.cells #[(.slice AO4 nO4 cO4)] 25)) = w' := ⟨_, rfl⟩
    rw [hw5] at X5_5 gq ⊢
    clear hw5
    have T5 : Hid (Grows w1 w5) := T4.out.trans gq
    have O0_5 := Lib.hid (O0_4.out.keep gq)
    have L0_5 := Lib.hid (L0_4.out.keep gq)
    have X3_5 := Lib.hid (X3_4.out.keep gq)
    have X4_5 := Lib.hid (X4_4.out.keep gq)
    have O4_5 := Lib.hid (O4_4.out.keep gq)
    clear O0_4 L0_4 X3_4 X4_4 O4_4 T4
    clear gq
    obtain ⟨b_X5, hbb⟩ : ∃ b, w4.heap.size = b := ⟨_, rfl⟩
    rw [hbb] at X5_5 ⊢
    clear hbb
    rcases κ with _ | _
    · clear HCF
      refine wp_region_M 15 (CellsAre [(⟨b_X5, 0, none⟩, (.slice AO4 nO4 cO4)), (⟨w1.heap.size, 0, none⟩, (.slice A0 n0 c0)), (⟨w1.heap.size + 1, 0, none⟩, (.slice B0 d0 e0))]) (by kernel_rfl) (by kernel_rfl) ⟨X5_5.out.cell, X3_5.out.cell, X4_5.out.cell, trivial⟩ (fun hB hS => ?_)
      refine wpAnyM_take (i := 0) (v := ?vzab0) hB rfl (by kernel_rfl) (fun _ _ _ h => h) (by first | kernel_rfl | simp [Region.wanted, yielded, Act.put]) ?yzab0 hS ?nzab0
      case yzab0 => (intro w9 hSw; obtain ⟨s1, s2, s3, _⟩ := hSw; go_simp; first | done | with_reducible rfl | rfl)
      refine wpAnyM_take (i := 1) (v := ?vzab1) hB rfl (by kernel_rfl) (fun _ _ _ h => h) (by first | kernel_rfl | simp [Region.wanted, yielded, Act.put]) ?yzab1 hS ?nzab1
      case yzab1 => (intro w9 hSw; obtain ⟨s1, s2, s3, _⟩ := hSw; go_simp; first | done | with_reducible rfl | rfl)
      refine wpAnyM_take (i := 2) (v := ?vzab2) hB rfl (by kernel_rfl) (fun _ _ _ h => h) (by first | kernel_rfl | simp [Region.wanted, yielded, Act.put]) ?yzab2 hS ?nzab2
      case yzab2 => (intro w9 hSw; obtain ⟨s1, s2, s3, _⟩ := hSw; go_simp; first | done | with_reducible rfl | rfl)
      have HSx := Lib.hid hS
      clear hS
      refine wpAnyM_oneW (i := 3) rfl (by kernel_rfl) (by first | kernel_rfl | simp [Region.wanted, yielded, Act.put]) ?_
      go_wp2_with fail
      refine (HM2.out _ _ _ _ _ (O0_5.out.keep (Grows.refl _).drew) (L0_5.out.keep (Grows.refl _).drew)).mono ?_
      rintro e w6 ⟨u, rfl, hu, gq⟩
      have J6 : Hid (Grows w5 w6) := (Grows.refl w5).drew.trans gq
      have HSy := Lib.hid (CellsAre.keep HSx.out gq)
      clear gq HSx
      obtain ⟨AOS, nOS, cOS, hu'⟩ := OwnE.form3 hu
      subst hu'
      have OS_6 := Lib.hid hu
      clear hu
      go_wp2_with fail
      refine ⟨HSy.out, ?_⟩
      have hS := HSy.out
      clear HSy
      have HSx := Lib.hid hS
      clear hS
      refine wpAnyM_oneW (i := 4) rfl (by kernel_rfl) (by first | kernel_rfl | simp [Region.wanted, yielded, Act.put]) ?_
      go_wp2_with fail
      refine (equalLayer_own _ _ _ _ M _ hM20 (O4_5.out.keep J6.out) OS_6.out).mono ?_
      rintro e w7 ⟨rfl, gq⟩
      have J7 : Hid (Grows w5 w7) := J6.out.trans gq
      have OS_7 := Lib.hid (OS_6.out.keep gq)
      clear OS_6
      clear J6
      have HSy := Lib.hid (CellsAre.keep HSx.out gq)
      clear gq HSx
      go_wp2_with fail
      refine ⟨HSy.out, ?_⟩
      have hS := HSy.out
      clear HSy
      refine wpAnyM_take (i := 5) (v := .bool false) hB rfl (by kernel_rfl) (fun _ _ _ h => h) (by first | kernel_rfl | simp [Region.wanted, yielded, Act.put]) ?yzab5 hS ?nzab5
      case yzab5 => (intro w9 hSw; obtain ⟨s1, s2, s3, _⟩ := hSw; go_simp; first | done | with_reducible rfl | rfl)
      refine wpAnyM_take (i := 6) (v := .bool false) hB rfl (by kernel_rfl) (fun _ _ _ h => h) (by first | kernel_rfl | simp [Region.wanted, yielded, Act.put]) ?yzab6 hS ?nzab6
      case yzab6 => (intro w9 hSw; obtain ⟨s1, s2, s3, _⟩ := hSw; go_simp; first | done | with_reducible rfl | rfl)
      refine wpAnyM_take (i := 7) (v := ?vzab7) hB rfl (by kernel_rfl) (fun _ _ _ h => h) (by first | kernel_rfl | simp [Region.wanted, yielded, Act.put]) ?yzab7 hS ?nzab7
      case yzab7 => (intro w9 hSw; obtain ⟨s1, s2, s3, _⟩ := hSw; go_simp; first | done | with_reducible rfl | rfl)
      have HSx := Lib.hid hS
      clear hS
      refine wpAnyM_oneW (i := 8) rfl (by kernel_rfl) (by first | kernel_rfl | simp [Region.wanted, yielded, Act.put]) ?_
      go_wp2_with fail
      refine (HV1.out _ _ _ (O0_5.out.keep J7.out)).mono ?_
      rintro e w8 ⟨rfl, gq⟩
      have J8 : Hid (Grows w5 w8) := J7.out.trans gq
      have OS_8 := Lib.hid (OS_7.out.keep gq)
      clear OS_7
      clear J7
      have HSy := Lib.hid (CellsAre.keep HSx.out gq)
      clear gq HSx
      go_wp2_with fail
      refine ⟨HSy.out, ?_⟩
      have hS := HSy.out
      clear HSy
      refine wpAnyM_take (i := 9) (v := .bool true) hB rfl (by kernel_rfl) (fun _ _ _ h => h) (by first | kernel_rfl | simp [Region.wanted, yielded, Act.put]) ?yzab9 hS ?nzab9
      case yzab9 => (intro w9 hSw; obtain ⟨s1, s2, s3, _⟩ := hSw; go_simp; first | done | with_reducible rfl | rfl)
      refine wpAnyM_take (i := 10) (v := .bool true) hB rfl (by kernel_rfl) (fun _ _ _ h => h) (by first | kernel_rfl | simp [Region.wanted, yielded, Act.put]) ?yzab10 hS ?nzab10
      case yzab10 => (intro w9 hSw; obtain ⟨s1, s2, s3, _⟩ := hSw; go_simp; first | done | with_reducible rfl | rfl)
      refine wpAnyM_take (i := 11) (v := .bool true) hB rfl (by kernel_rfl) (fun _ _ _ h => h) (by first | kernel_rfl | simp [Region.wanted, yielded, Act.put]) ?yzab11 hS ?nzab11
      case yzab11 => (intro w9 hSw; obtain ⟨s1, s2, s3, _⟩ := hSw; go_simp; first | done | with_reducible rfl | rfl)
      refine wpAnyM_skip (i := 12) hB rfl (by kernel_rfl) (fun _ _ _ h => h) (by first | kernel_rfl | simp [Region.wanted, yielded, Act.put]) hS ?_
      refine wpAnyM_skip (i := 13) hB rfl (by kernel_rfl) (fun _ _ _ h => h) (by first | kernel_rfl | simp [Region.wanted, yielded, Act.put]) hS ?_
      refine wpAnyM_skip (i := 14) hB rfl (by kernel_rfl) (fun _ _ _ h => h) (by first | kernel_rfl | simp [Region.wanted, yielded, Act.put]) hS ?_
      clear hS
      refine wpAnyM_tail (by kernel_rfl) ?_
      clear hB
      have T8 : Hid (Grows w1 w8) := T5.out.trans J8.out
      have O0_8 := Lib.hid (O0_5.out.keep J8.out)
      have L0_8 := Lib.hid (L0_5.out.keep J8.out)
      have X3_8 := Lib.hid (X3_5.out.keep J8.out)
      have X4_8 := Lib.hid (X4_5.out.keep J8.out)
      have O4_8 := Lib.hid (O4_5.out.keep J8.out)
      have X5_8 := Lib.hid (X5_5.out.keep J8.out)
      clear O0_5 L0_5 X3_5 X4_5 O4_5 X5_5 T5 J8
      go_wp2_with fail
      refine wp_region_M 5 (CellsAre [(⟨b_X5, 0, none⟩, (.slice AO4 nO4 cO4)), (⟨w1.heap.size, 0, none⟩, (.slice A0 n0 c0)), (⟨w1.heap.size + 1, 0, none⟩, (.slice B0 d0 e0))]) (by kernel_rfl) (by kernel_rfl) ⟨X5_8.out.cell, X3_8.out.cell, X4_8.out.cell, trivial⟩ (fun hB hS => ?_)
      refine wpAnyM_take (i := 0) (v := ?vzac0) hB rfl (by kernel_rfl) (fun _ _ _ h => h) (by first | kernel_rfl | simp [Region.wanted, yielded, Act.put]) ?yzac0 hS ?nzac0
      case yzac0 => (intro w9 hSw; obtain ⟨s1, s2, s3, _⟩ := hSw; go_simp; first | done | with_reducible rfl | rfl)
      refine wpAnyM_take (i := 1) (v := ?vzac1) hB rfl (by kernel_rfl) (fun _ _ _ h => h) (by first | kernel_rfl | simp [Region.wanted, yielded, Act.put]) ?yzac1 hS ?nzac1
      case yzac1 => (intro w9 hSw; obtain ⟨s1, s2, s3, _⟩ := hSw; go_simp; first | done | with_reducible rfl | rfl)
      refine wpAnyM_take (i := 2) (v := ?vzac2) hB rfl (by kernel_rfl) (fun _ _ _ h => h) (by first | kernel_rfl | simp [Region.wanted, yielded, Act.put]) ?yzac2 hS ?nzac2
      case yzac2 => (intro w9 hSw; obtain ⟨s1, s2, s3, _⟩ := hSw; go_simp; first | done | with_reducible rfl | rfl)
      have HSx := Lib.hid hS
      clear hS
      refine wpAnyM_oneW (i := 3) rfl (by kernel_rfl) (by first | kernel_rfl | simp [Region.wanted, yielded, Act.put]) ?_
      go_wp2_with fail
      refine (HM2.out _ _ _ _ _ (O0_8.out.keep (Grows.refl _).drew) (L0_8.out.keep (Grows.refl _).drew)).mono ?_
      rintro e w9 ⟨u, rfl, hu, gq⟩
      have J9 : Hid (Grows w8 w9) := (Grows.refl w8).drew.trans gq
      have HSy := Lib.hid (CellsAre.keep HSx.out gq)
      clear gq HSx
      obtain ⟨AOT, nOT, cOT, hu'⟩ := OwnE.form3 hu
      subst hu'
      have OT_9 := Lib.hid hu
      clear hu
      go_wp2_with fail
      refine ⟨HSy.out, ?_⟩
      have hS := HSy.out
      clear HSy
      have HSx := Lib.hid hS
      clear hS
      refine wpAnyM_oneW (i := 4) rfl (by kernel_rfl) (by first | kernel_rfl | simp [Region.wanted, yielded, Act.put]) ?_
      go_wp2_with fail
      refine (equalLayer_own _ _ _ _ M _ hM20 (O4_8.out.keep J9.out) OT_9.out).mono ?_
      rintro e w10 ⟨rfl, gq⟩
      have J10 : Hid (Grows w8 w10) := J9.out.trans gq
      have OT_10 := Lib.hid (OT_9.out.keep gq)
      clear OT_9
      clear J9
      have HSy := Lib.hid (CellsAre.keep HSx.out gq)
      clear gq HSx
      go_wp2_with fail
      refine ⟨HSy.out, ?_⟩
      have hS := HSy.out
      clear HSy
      clear hS
      refine wpAnyM_tail (by kernel_rfl) ?_
      clear hB
      have T10 : Hid (Grows w1 w10) := T8.out.trans J10.out
      have O0_10 := Lib.hid (O0_8.out.keep J10.out)
      have L0_10 := Lib.hid (L0_8.out.keep J10.out)
      have X3_10 := Lib.hid (X3_8.out.keep J10.out)
      have X4_10 := Lib.hid (X4_8.out.keep J10.out)
      have O4_10 := Lib.hid (O4_8.out.keep J10.out)
      have X5_10 := Lib.hid (X5_8.out.keep J10.out)
      have OS_10 := Lib.hid (OS_8.out.keep J10.out)
      clear O0_8 L0_8 X3_8 X4_8 O4_8 X5_8 OS_8 T8 J10
      go_wp2
      go_ret
      exact ⟨rfl, (HG1.out.trans T10.out).below⟩
    · rcases μ with _ | _
      · clear HCF
        refine wp_region_M 15 (CellsAre [(⟨b_X5, 0, none⟩, (.slice AO4 nO4 cO4)), (⟨w1.heap.size, 0, none⟩, (.slice A0 n0 c0)), (⟨w1.heap.size + 1, 0, none⟩, (.slice B0 d0 e0))]) (by kernel_rfl) (by kernel_rfl) ⟨X5_5.out.cell, X3_5.out.cell, X4_5.out.cell, trivial⟩ (fun hB hS => ?_)
        refine wpAnyM_take (i := 0) (v := ?vzad0) hB rfl (by kernel_rfl) (fun _ _ _ h => h) (by first | kernel_rfl | simp [Region.wanted, yielded, Act.put]) ?yzad0 hS ?nzad0
        case yzad0 => (intro w9 hSw; obtain ⟨s1, s2, s3, _⟩ := hSw; go_simp; first | done | with_reducible rfl | rfl)
        refine wpAnyM_take (i := 1) (v := ?vzad1) hB rfl (by kernel_rfl) (fun _ _ _ h => h) (by first | kernel_rfl | simp [Region.wanted, yielded, Act.put]) ?yzad1 hS ?nzad1
        case yzad1 => (intro w9 hSw; obtain ⟨s1, s2, s3, _⟩ := hSw; go_simp; first | done | with_reducible rfl | rfl)
        refine wpAnyM_take (i := 2) (v := ?vzad2) hB rfl (by kernel_rfl) (fun _ _ _ h => h) (by first | kernel_rfl | simp [Region.wanted, yielded, Act.put]) ?yzad2 hS ?nzad2
        case yzad2 => (intro w9 hSw; obtain ⟨s1, s2, s3, _⟩ := hSw; go_simp; first | done | with_reducible rfl | rfl)
        have HSx := Lib.hid hS
        clear hS
        refine wpAnyM_oneW (i := 3) rfl (by kernel_rfl) (by first | kernel_rfl | simp [Region.wanted, yielded, Act.put]) ?_
        go_wp2_with fail
        refine (HM2.out _ _ _ _ _ (O0_5.out.keep (Grows.refl _).drew) (L0_5.out.keep (Grows.refl _).drew)).mono ?_
        rintro e w11 ⟨u, rfl, hu, gq⟩
        have J11 : Hid (Grows w5 w11) := (Grows.refl w5).drew.trans gq
        have HSy := Lib.hid (CellsAre.keep HSx.out gq)
        clear gq HSx
        obtain ⟨AOS, nOS, cOS, hu'⟩ := OwnE.form3 hu
        subst hu'
        have OS_11 := Lib.hid hu
        clear hu
        go_wp2_with fail
        refine ⟨HSy.out, ?_⟩
        have hS := HSy.out
        clear HSy
        have HSx := Lib.hid hS
        clear hS
        refine wpAnyM_oneW (i := 4) rfl (by kernel_rfl) (by first | kernel_rfl | simp [Region.wanted, yielded, Act.put]) ?_
        go_wp2_with fail
        refine (equalLayer_own _ _ _ _ M _ hM20 (O4_5.out.keep J11.out) OS_11.out).mono ?_
        rintro e w12 ⟨rfl, gq⟩
        have J12 : Hid (Grows w5 w12) := J11.out.trans gq
        have OS_12 := Lib.hid (OS_11.out.keep gq)
        clear OS_11
        clear J11
        have HSy := Lib.hid (CellsAre.keep HSx.out gq)
        clear gq HSx
        go_wp2_with fail
        refine ⟨HSy.out, ?_⟩
        have hS := HSy.out
        clear HSy
        refine wpAnyM_take (i := 5) (v := .bool false) hB rfl (by kernel_rfl) (fun _ _ _ h => h) (by first | kernel_rfl | simp [Region.wanted, yielded, Act.put]) ?yzad5 hS ?nzad5
        case yzad5 => (intro w9 hSw; obtain ⟨s1, s2, s3, _⟩ := hSw; go_simp; first | done | with_reducible rfl | rfl)
        refine wpAnyM_take (i := 6) (v := .bool false) hB rfl (by kernel_rfl) (fun _ _ _ h => h) (by first | kernel_rfl | simp [Region.wanted, yielded, Act.put]) ?yzad6 hS ?nzad6
        case yzad6 => (intro w9 hSw; obtain ⟨s1, s2, s3, _⟩ := hSw; go_simp; first | done | with_reducible rfl | rfl)
        refine wpAnyM_take (i := 7) (v := ?vzad7) hB rfl (by kernel_rfl) (fun _ _ _ h => h) (by first | kernel_rfl | simp [Region.wanted, yielded, Act.put]) ?yzad7 hS ?nzad7
        case yzad7 => (intro w9 hSw; obtain ⟨s1, s2, s3, _⟩ := hSw; go_simp; first | done | with_reducible rfl | rfl)
        have HSx := Lib.hid hS
        clear hS
        refine wpAnyM_oneW (i := 8) rfl (by kernel_rfl) (by first | kernel_rfl | simp [Region.wanted, yielded, Act.put]) ?_
        go_wp2_with fail
        refine (HV1.out _ _ _ (O0_5.out.keep J12.out)).mono ?_
        rintro e w13 ⟨rfl, gq⟩
        have J13 : Hid (Grows w5 w13) := J12.out.trans gq
        have OS_13 := Lib.hid (OS_12.out.keep gq)
        clear OS_12
        clear J12
        have HSy := Lib.hid (CellsAre.keep HSx.out gq)
        clear gq HSx
        go_wp2_with fail
        refine ⟨HSy.out, ?_⟩
        have hS := HSy.out
        clear HSy
        refine wpAnyM_take (i := 9) (v := .bool false) hB rfl (by kernel_rfl) (fun _ _ _ h => h) (by first | kernel_rfl | simp [Region.wanted, yielded, Act.put]) ?yzad9 hS ?nzad9
        case yzad9 => (intro w9 hSw; obtain ⟨s1, s2, s3, _⟩ := hSw; go_simp; first | done | with_reducible rfl | rfl)
        refine wpAnyM_take (i := 10) (v := .bool false) hB rfl (by kernel_rfl) (fun _ _ _ h => h) (by first | kernel_rfl | simp [Region.wanted, yielded, Act.put]) ?yzad10 hS ?nzad10
        case yzad10 => (intro w9 hSw; obtain ⟨s1, s2, s3, _⟩ := hSw; go_simp; first | done | with_reducible rfl | rfl)
        refine wpAnyM_take (i := 11) (v := .bool false) hB rfl (by kernel_rfl) (fun _ _ _ h => h) (by first | kernel_rfl | simp [Region.wanted, yielded, Act.put]) ?yzad11 hS ?nzad11
        case yzad11 => (intro w9 hSw; obtain ⟨s1, s2, s3, _⟩ := hSw; go_simp; first | done | with_reducible rfl | rfl)
        refine wpAnyM_take (i := 12) (v := ?vzad12) hB rfl (by kernel_rfl) (fun _ _ _ h => h) (by first | kernel_rfl | simp [Region.wanted, yielded, Act.put]) ?yzad12 hS ?nzad12
        case yzad12 => (intro w9 hSw; obtain ⟨s1, s2, s3, _⟩ := hSw; go_simp; first | done | with_reducible rfl | rfl)
        have HSx := Lib.hid hS
        clear hS
        go_simp
        refine wpAnyM_oneW (i := 13) rfl (by kernel_rfl) (by first | kernel_rfl | simp [Region.wanted, yielded, Act.put]) ?_
        go_wp2_with fail
        refine (HV2.out _ _ _ (L0_5.out.keep J13.out)).mono ?_
        rintro e w14 ⟨rfl, gq⟩
        have J14 : Hid (Grows w5 w14) := J13.out.trans gq
        have OS_14 := Lib.hid (OS_13.out.keep gq)
        clear OS_13
        clear J13
        have HSy := Lib.hid (CellsAre.keep HSx.out gq)
        clear gq HSx
        go_wp2_with fail
        refine ⟨HSy.out, ?_⟩
        have hS := HSy.out
        clear HSy
        refine wpAnyM_take (i := 14) (v := .bool true) hB rfl (by kernel_rfl) (fun _ _ _ h => h) (by first | kernel_rfl | simp [Region.wanted, yielded, Act.put]) ?yzad14 hS ?nzad14
        case yzad14 => (intro w9 hSw; obtain ⟨s1, s2, s3, _⟩ := hSw; go_simp; first | done | with_reducible rfl | rfl)
        clear hS
        refine wpAnyM_tail (by kernel_rfl) ?_
        clear hB
        have T14 : Hid (Grows w1 w14) := T5.out.trans J14.out
        have O0_14 := Lib.hid (O0_5.out.keep J14.out)
        have L0_14 := Lib.hid (L0_5.out.keep J14.out)
        have X3_14 := Lib.hid (X3_5.out.keep J14.out)
        have X4_14 := Lib.hid (X4_5.out.keep J14.out)
        have O4_14 := Lib.hid (O4_5.out.keep J14.out)
        have X5_14 := Lib.hid (X5_5.out.keep J14.out)
        clear O0_5 L0_5 X3_5 X4_5 O4_5 X5_5 T5 J14
        go_wp2_with fail
        refine wp_region_M 5 (CellsAre [(⟨b_X5, 0, none⟩, (.slice AO4 nO4 cO4)), (⟨w1.heap.size, 0, none⟩, (.slice A0 n0 c0)), (⟨w1.heap.size + 1, 0, none⟩, (.slice B0 d0 e0))]) (by kernel_rfl) (by kernel_rfl) ⟨X5_14.out.cell, X3_14.out.cell, X4_14.out.cell, trivial⟩ (fun hB hS => ?_)
        refine wpAnyM_take (i := 0) (v := ?vzae0) hB rfl (by kernel_rfl) (fun _ _ _ h => h) (by first | kernel_rfl | simp [Region.wanted, yielded, Act.put]) ?yzae0 hS ?nzae0
        case yzae0 => (intro w9 hSw; obtain ⟨s1, s2, s3, _⟩ := hSw; go_simp; first | done | with_reducible rfl | rfl)
        refine wpAnyM_take (i := 1) (v := ?vzae1) hB rfl (by kernel_rfl) (fun _ _ _ h => h) (by first | kernel_rfl | simp [Region.wanted, yielded, Act.put]) ?yzae1 hS ?nzae1
        case yzae1 => (intro w9 hSw; obtain ⟨s1, s2, s3, _⟩ := hSw; go_simp; first | done | with_reducible rfl | rfl)
        refine wpAnyM_take (i := 2) (v := ?vzae2) hB rfl (by kernel_rfl) (fun _ _ _ h => h) (by first | kernel_rfl | simp [Region.wanted, yielded, Act.put]) ?yzae2 hS ?nzae2
        case yzae2 => (intro w9 hSw; obtain ⟨s1, s2, s3, _⟩ := hSw; go_simp; first | done | with_reducible rfl | rfl)
        have HSx := Lib.hid hS
        clear hS
        refine wpAnyM_oneW (i := 3) rfl (by kernel_rfl) (by first | kernel_rfl | simp [Region.wanted, yielded, Act.put]) ?_
        go_wp2_with fail
        refine (HM2.out _ _ _ _ _ (O0_14.out.keep (Grows.refl _).drew) (L0_14.out.keep (Grows.refl _).drew)).mono ?_
        rintro e w15 ⟨u, rfl, hu, gq⟩
        have J15 : Hid (Grows w14 w15) := (Grows.refl w14).drew.trans gq
        have HSy := Lib.hid (CellsAre.keep HSx.out gq)
        clear gq HSx
        obtain ⟨AOT, nOT, cOT, hu'⟩ := OwnE.form3 hu
        subst hu'
        have OT_15 := Lib.hid hu
        clear hu
        go_wp2_with fail
        refine ⟨HSy.out, ?_⟩
        have hS := HSy.out
        clear HSy
        have HSx := Lib.hid hS
        clear hS
        refine wpAnyM_oneW (i := 4) rfl (by kernel_rfl) (by first | kernel_rfl | simp [Region.wanted, yielded, Act.put]) ?_
        go_wp2_with fail
        refine (equalLayer_own _ _ _ _ M _ hM20 (O4_14.out.keep J15.out) OT_15.out).mono ?_
        rintro e w16 ⟨rfl, gq⟩
        have J16 : Hid (Grows w14 w16) := J15.out.trans gq
        have OT_16 := Lib.hid (OT_15.out.keep gq)
        clear OT_15
        clear J15
        have HSy := Lib.hid (CellsAre.keep HSx.out gq)
        clear gq HSx
        go_wp2_with fail
        refine ⟨HSy.out, ?_⟩
        have hS := HSy.out
        clear HSy
        clear hS
        refine wpAnyM_tail (by kernel_rfl) ?_
        clear hB
        have T16 : Hid (Grows w1 w16) := T14.out.trans J16.out
        have O0_16 := Lib.hid (O0_14.out.keep J16.out)
        have L0_16 := Lib.hid (L0_14.out.keep J16.out)
        have X3_16 := Lib.hid (X3_14.out.keep J16.out)
        have X4_16 := Lib.hid (X4_14.out.keep J16.out)
        have O4_16 := Lib.hid (O4_14.out.keep J16.out)
        have X5_16 := Lib.hid (X5_14.out.keep J16.out)
        have OS_16 := Lib.hid (OS_14.out.keep J16.out)
        clear O0_14 L0_14 X3_14 X4_14 O4_14 X5_14 OS_14 T14 J16
        go_wp2
        go_ret
        exact ⟨rfl, (HG1.out.trans T16.out).below⟩
      · obtain ⟨z1, z2, z3⟩ := HCF.out rfl rfl
        rw [z1] at HSM
        rw [z2] at HM4
        rw [z3] at HM5
        clear HCF z1 z2 z3
        refine wp_region_M 15 (CellsAre [(⟨b_X5, 0, none⟩, (.slice AO4 nO4 cO4)), (⟨w1.heap.size, 0, none⟩, (.slice A0 n0 c0)), (⟨w1.heap.size + 1, 0, none⟩, (.slice B0 d0 e0))]) (by kernel_rfl) (by kernel_rfl) ⟨X5_5.out.cell, X3_5.out.cell, X4_5.out.cell, trivial⟩ (fun hB hS => ?_)
        refine wpAnyM_take (i := 0) (v := ?vzaf0) hB rfl (by kernel_rfl) (fun _ _ _ h => h) (by first | kernel_rfl | simp [Region.wanted, yielded, Act.put]) ?yzaf0 hS ?nzaf0
        case yzaf0 => (intro w9 hSw; obtain ⟨s1, s2, s3, _⟩ := hSw; go_simp; first | done | with_reducible rfl | rfl)
        refine wpAnyM_take (i := 1) (v := ?vzaf1) hB rfl (by kernel_rfl) (fun _ _ _ h => h) (by first | kernel_rfl | simp [Region.wanted, yielded, Act.put]) ?yzaf1 hS ?nzaf1
        case yzaf1 => (intro w9 hSw; obtain ⟨s1, s2, s3, _⟩ := hSw; go_simp; first | done | with_reducible rfl | rfl)
        refine wpAnyM_take (i := 2) (v := ?vzaf2) hB rfl (by kernel_rfl) (fun _ _ _ h => h) (by first | kernel_rfl | simp [Region.wanted, yielded, Act.put]) ?yzaf2 hS ?nzaf2
        case yzaf2 => (intro w9 hSw; obtain ⟨s1, s2, s3, _⟩ := hSw; go_simp; first | done | with_reducible rfl | rfl)
        have HSx := Lib.hid hS
        clear hS
        refine wpAnyM_oneW (i := 3) rfl (by kernel_rfl) (by first | kernel_rfl | simp [Region.wanted, yielded, Act.put]) ?_
        go_wp2_with fail
        refine (HM2.out _ _ _ _ _ (O0_5.out.keep (Grows.refl _).drew) (L0_5.out.keep (Grows.refl _).drew)).mono ?_
        rintro e w17 ⟨u, rfl, hu, gq⟩
        have J17 : Hid (Grows w5 w17) := (Grows.refl w5).drew.trans gq
        have HSy := Lib.hid (CellsAre.keep HSx.out gq)
        clear gq HSx
        obtain ⟨AOS, nOS, cOS, hu'⟩ := OwnE.form3 hu
        subst hu'
        have OS_17 := Lib.hid hu
        clear hu
        go_wp2_with fail
        refine ⟨HSy.out, ?_⟩
        have hS := HSy.out
        clear HSy
        have HSx := Lib.hid hS
        clear hS
        refine wpAnyM_oneW (i := 4) rfl (by kernel_rfl) (by first | kernel_rfl | simp [Region.wanted, yielded, Act.put]) ?_
        go_wp2_with fail
        refine (equalLayer_own _ _ _ _ M _ hM20 (O4_5.out.keep J17.out) OS_17.out).mono ?_
        rintro e w18 ⟨rfl, gq⟩
        have J18 : Hid (Grows w5 w18) := J17.out.trans gq
        have OS_18 := Lib.hid (OS_17.out.keep gq)
        clear OS_17
        clear J17
        have HSy := Lib.hid (CellsAre.keep HSx.out gq)
        clear gq HSx
        go_wp2_with fail
        refine ⟨HSy.out, ?_⟩
        have hS := HSy.out
        clear HSy
        refine wpAnyM_take (i := 5) (v := .bool false) hB rfl (by kernel_rfl) (fun _ _ _ h => h) (by first | kernel_rfl | simp [Region.wanted, yielded, Act.put]) ?yzaf5 hS ?nzaf5
        case yzaf5 => (intro w9 hSw; obtain ⟨s1, s2, s3, _⟩ := hSw; go_simp; first | done | with_reducible rfl | rfl)
        refine wpAnyM_take (i := 6) (v := .bool false) hB rfl (by kernel_rfl) (fun _ _ _ h => h) (by first | kernel_rfl | simp [Region.wanted, yielded, Act.put]) ?yzaf6 hS ?nzaf6
        case yzaf6 => (intro w9 hSw; obtain ⟨s1, s2, s3, _⟩ := hSw; go_simp; first | done | with_reducible rfl | rfl)
        refine wpAnyM_take (i := 7) (v := ?vzaf7) hB rfl (by kernel_rfl) (fun _ _ _ h => h) (by first | kernel_rfl | simp [Region.wanted, yielded, Act.put]) ?yzaf7 hS ?nzaf7
        case yzaf7 => (intro w9 hSw; obtain ⟨s1, s2, s3, _⟩ := hSw; go_simp; first | done | with_reducible rfl | rfl)
        have HSx := Lib.hid hS
        clear hS
        refine wpAnyM_oneW (i := 8) rfl (by kernel_rfl) (by first | kernel_rfl | simp [Region.wanted, yielded, Act.put]) ?_
        go_wp2_with fail
        refine (HV1.out _ _ _ (O0_5.out.keep J18.out)).mono ?_
        rintro e w19 ⟨rfl, gq⟩
        have J19 : Hid (Grows w5 w19) := J18.out.trans gq
        have OS_19 := Lib.hid (OS_18.out.keep gq)
        clear OS_18
        clear J18
        have HSy := Lib.hid (CellsAre.keep HSx.out gq)
        clear gq HSx
        go_wp2_with fail
        refine ⟨HSy.out, ?_⟩
        have hS := HSy.out
        clear HSy
        refine wpAnyM_take (i := 9) (v := .bool false) hB rfl (by kernel_rfl) (fun _ _ _ h => h) (by first | kernel_rfl | simp [Region.wanted, yielded, Act.put]) ?yzaf9 hS ?nzaf9
        case yzaf9 => (intro w9 hSw; obtain ⟨s1, s2, s3, _⟩ := hSw; go_simp; first | done | with_reducible rfl | rfl)
        refine wpAnyM_take (i := 10) (v := .bool false) hB rfl (by kernel_rfl) (fun _ _ _ h => h) (by first | kernel_rfl | simp [Region.wanted, yielded, Act.put]) ?yzaf10 hS ?nzaf10
        case yzaf10 => (intro w9 hSw; obtain ⟨s1, s2, s3, _⟩ := hSw; go_simp; first | done | with_reducible rfl | rfl)
        refine wpAnyM_take (i := 11) (v := .bool false) hB rfl (by kernel_rfl) (fun _ _ _ h => h) (by first | kernel_rfl | simp [Region.wanted, yielded, Act.put]) ?yzaf11 hS ?nzaf11
        case yzaf11 => (intro w9 hSw; obtain ⟨s1, s2, s3, _⟩ := hSw; go_simp; first | done | with_reducible rfl | rfl)
        refine wpAnyM_take (i := 12) (v := ?vzaf12) hB rfl (by kernel_rfl) (fun _ _ _ h => h) (by first | kernel_rfl | simp [Region.wanted, yielded, Act.put]) ?yzaf12 hS ?nzaf12
        case yzaf12 => (intro w9 hSw; obtain ⟨s1, s2, s3, _⟩ := hSw; go_simp; first | done | with_reducible rfl | rfl)
        have HSx := Lib.hid hS
        clear hS
        go_simp
        refine wpAnyM_oneW (i := 13) rfl (by kernel_rfl) (by first | kernel_rfl | simp [Region.wanted, yielded, Act.put]) ?_
        go_wp2_with fail
        refine (HV2.out _ _ _ (L0_5.out.keep J19.out)).mono ?_
        rintro e w20 ⟨rfl, gq⟩
        have J20 : Hid (Grows w5 w20) := J19.out.trans gq
        have OS_20 := Lib.hid (OS_19.out.keep gq)
        clear OS_19
        clear J19
        have HSy := Lib.hid (CellsAre.keep HSx.out gq)
        clear gq HSx
        go_wp2_with fail
        refine ⟨HSy.out, ?_⟩
        have hS := HSy.out
        clear HSy
        refine wpAnyM_take (i := 14) (v := .bool false) hB rfl (by kernel_rfl) (fun _ _ _ h => h) (by first | kernel_rfl | simp [Region.wanted, yielded, Act.put]) ?yzaf14 hS ?nzaf14
        case yzaf14 => (intro w9 hSw; obtain ⟨s1, s2, s3, _⟩ := hSw; go_simp; first | done | with_reducible rfl | rfl)
        clear hS
        refine wpAnyM_tail (by kernel_rfl) ?_
        clear hB
        have T20 : Hid (Grows w1 w20) := T5.out.trans J20.out
        have O0_20 := Lib.hid (O0_5.out.keep J20.out)
        have L0_20 := Lib.hid (L0_5.out.keep J20.out)
        have X3_20 := Lib.hid (X3_5.out.keep J20.out)
        have X4_20 := Lib.hid (X4_5.out.keep J20.out)
        have O4_20 := Lib.hid (O4_5.out.keep J20.out)
        have X5_20 := Lib.hid (X5_5.out.keep J20.out)
        clear O0_5 L0_5 X3_5 X4_5 O4_5 X5_5 T5 J20
        go_wp2_with fail
        refine wp_region_M 19 (CellsAre [(⟨b_X5, 0, none⟩, (.slice AO4 nO4 cO4)), (⟨w1.heap.size, 0, none⟩, (.slice A0 n0 c0)), (⟨w1.heap.size + 1, 0, none⟩, (.slice B0 d0 e0))]) (by kernel_rfl) (by kernel_rfl) ⟨X5_20.out.cell, X3_20.out.cell, X4_20.out.cell, trivial⟩ (fun hB hS => ?_)
        refine wpAnyM_take (i := 0) (v := ?vzag0) hB rfl (by kernel_rfl) (fun _ _ _ h => h) (by first | kernel_rfl | simp [Region.wanted, yielded, Act.put]) ?yzag0 hS ?nzag0
        case yzag0 => (intro w9 hSw; obtain ⟨s1, s2, s3, _⟩ := hSw; go_simp; first | done | with_reducible rfl | rfl)
        refine wpAnyM_take (i := 1) (v := ?vzag1) hB rfl (by kernel_rfl) (fun _ _ _ h => h) (by first | kernel_rfl | simp [Region.wanted, yielded, Act.put]) ?yzag1 hS ?nzag1
        case yzag1 => (intro w9 hSw; obtain ⟨s1, s2, s3, _⟩ := hSw; go_simp; first | done | with_reducible rfl | rfl)
        refine wpAnyM_take (i := 3) (v := ?vzag3) hB rfl (by kernel_rfl) (fun _ _ _ h => h) (by first | kernel_rfl | simp [Region.wanted, yielded, Act.put]) ?yzag3 hS ?nzag3
        case yzag3 => (intro w9 hSw; obtain ⟨s1, s2, s3, _⟩ := hSw; go_simp; first | done | with_reducible rfl | rfl)
        have HSx := Lib.hid hS
        clear hS
        refine wpAnyM_oneW (i := 2) rfl (by kernel_rfl) (by first | kernel_rfl | simp [Region.wanted, yielded, Act.put]) ?_
        go_wp2_with fail
        refine (HM3.out _ _ _ _ _ (L0_20.out.keep (Grows.refl _).drew) (O0_20.out.keep (Grows.refl _).drew)).mono ?_
        rintro e w21 ⟨u, rfl, hu, gq⟩
        have J21 : Hid (Grows w20 w21) := (Grows.refl w20).drew.trans gq
        have HSy := Lib.hid (CellsAre.keep HSx.out gq)
        clear gq HSx
        obtain ⟨AOU, nOU, cOU, hu'⟩ := OwnE.form3 hu
        subst hu'
        have OU_21 := Lib.hid hu
        clear hu
        go_wp2_with fail
        refine ⟨HSy.out, ?_⟩
        have hS := HSy.out
        clear HSy
        have HSx := Lib.hid hS
        clear hS
        refine wpAnyM_oneW (i := 4) rfl (by kernel_rfl) (by first | kernel_rfl | simp [Region.wanted, yielded, Act.put]) ?_
        go_wp2_with fail
        refine (HSM.out _ _ _ _ _ OU_21.out (O4_20.out.keep J21.out)).mono ?_
        rintro e w22 ⟨rfl, gq⟩
        have J22 : Hid (Grows w20 w22) := J21.out.trans gq
        have OU_22 := Lib.hid (OU_21.out.keep gq)
        clear OU_21
        clear J21
        have HSy := Lib.hid (CellsAre.keep HSx.out gq)
        clear gq HSx
        go_wp2_with fail
        refine ⟨HSy.out, ?_⟩
        have hS := HSy.out
        clear HSy
        refine wpAnyM_take (i := 5) (v := .bool true) hB rfl (by kernel_rfl) (fun _ _ _ h => h) (by first | kernel_rfl | simp [Region.wanted, yielded, Act.put]) ?yzag5 hS ?nzag5
        case yzag5 => (intro w9 hSw; obtain ⟨s1, s2, s3, _⟩ := hSw; go_simp; first | done | with_reducible rfl | rfl)
        refine wpAnyM_take (i := 6) (v := ?vzag6) hB rfl (by kernel_rfl) (fun _ _ _ h => h) (by first | kernel_rfl | simp [Region.wanted, yielded, Act.put]) ?yzag6 hS ?nzag6
        case yzag6 => (intro w9 hSw; obtain ⟨s1, s2, s3, _⟩ := hSw; go_simp; first | done | with_reducible rfl | rfl)
        refine wpAnyM_take (i := 7) (v := ?vzag7) hB rfl (by kernel_rfl) (fun _ _ _ h => h) (by first | kernel_rfl | simp [Region.wanted, yielded, Act.put]) ?yzag7 hS ?nzag7
        case yzag7 => (intro w9 hSw; obtain ⟨s1, s2, s3, _⟩ := hSw; go_simp; first | done | with_reducible rfl | rfl)
        refine wpAnyM_take (i := 9) (v := ?vzag9) hB rfl (by kernel_rfl) (fun _ _ _ h => h) (by first | kernel_rfl | simp [Region.wanted, yielded, Act.put]) ?yzag9 hS ?nzag9
        case yzag9 => (intro w9 hSw; obtain ⟨s1, s2, s3, _⟩ := hSw; go_simp; first | done | with_reducible rfl | rfl)
        have HSx := Lib.hid hS
        clear hS
        refine wpAnyM_oneW (i := 8) rfl (by kernel_rfl) (by first | kernel_rfl | simp [Region.wanted, yielded, Act.put]) ?_
        go_wp2_with fail
        refine (HM4.out _ _ _ _ _ (O0_20.out.keep J22.out) (O4_20.out.keep J22.out)).mono ?_
        rintro e w23 ⟨u, rfl, hu, gq⟩
        have J23 : Hid (Grows w20 w23) := J22.out.trans gq
        have OU_23 := Lib.hid (OU_22.out.keep gq)
        clear OU_22
        clear J22
        have HSy := Lib.hid (CellsAre.keep HSx.out gq)
        clear gq HSx
        obtain ⟨AOV, nOV, cOV, hu'⟩ := OwnE.form3 hu
        subst hu'
        have OV_23 := Lib.hid hu
        clear hu
        go_wp2_with fail
        refine ⟨HSy.out, ?_⟩
        have hS := HSy.out
        clear HSy
        have HSx := Lib.hid hS
        clear hS
        go_simp
        refine wpAnyM_oneW (i := 10) rfl (by kernel_rfl) (by first | kernel_rfl | simp [Region.wanted, yielded, Act.put]) ?_
        go_wp2_with fail
        refine (equalLayer_own _ _ _ _ M _ hM20 OV_23.out (O4_20.out.keep J23.out)).mono ?_
        rintro e w24 ⟨rfl, gq⟩
        have J24 : Hid (Grows w20 w24) := J23.out.trans gq
        have OU_24 := Lib.hid (OU_23.out.keep gq)
        clear OU_23
        have OV_24 := Lib.hid (OV_23.out.keep gq)
        clear OV_23
        clear J23
        have HSy := Lib.hid (CellsAre.keep HSx.out gq)
        clear gq HSx
        go_wp2_with fail
        refine ⟨HSy.out, ?_⟩
        have hS := HSy.out
        clear HSy
        refine wpAnyM_take (i := 11) (v := .bool true) hB rfl (by kernel_rfl) (fun _ _ _ h => h) (by first | kernel_rfl | simp [Region.wanted, yielded, Act.put]) ?yzag11 hS ?nzag11
        case yzag11 => (intro w9 hSw; obtain ⟨s1, s2, s3, _⟩ := hSw; go_simp; first | done | with_reducible rfl | rfl)
        refine wpAnyM_take (i := 12) (v := .bool true) hB rfl (by kernel_rfl) (fun _ _ _ h => h) (by first | kernel_rfl | simp [Region.wanted, yielded, Act.put]) ?yzag12 hS ?nzag12
        case yzag12 => (intro w9 hSw; obtain ⟨s1, s2, s3, _⟩ := hSw; go_simp; first | done | with_reducible rfl | rfl)
        refine wpAnyM_take (i := 13) (v := ?vzag13) hB rfl (by kernel_rfl) (fun _ _ _ h => h) (by first | kernel_rfl | simp [Region.wanted, yielded, Act.put]) ?yzag13 hS ?nzag13
        case yzag13 => (intro w9 hSw; obtain ⟨s1, s2, s3, _⟩ := hSw; go_simp; first | done | with_reducible rfl | rfl)
        refine wpAnyM_take (i := 14) (v := ?vzag14) hB rfl (by kernel_rfl) (fun _ _ _ h => h) (by first | kernel_rfl | simp [Region.wanted, yielded, Act.put]) ?yzag14 hS ?nzag14
        case yzag14 => (intro w9 hSw; obtain ⟨s1, s2, s3, _⟩ := hSw; go_simp; first | done | with_reducible rfl | rfl)
        refine wpAnyM_take (i := 16) (v := ?vzag16) hB rfl (by kernel_rfl) (fun _ _ _ h => h) (by first | kernel_rfl | simp [Region.wanted, yielded, Act.put]) ?yzag16 hS ?nzag16
        case yzag16 => (intro w9 hSw; obtain ⟨s1, s2, s3, _⟩ := hSw; go_simp; first | done | with_reducible rfl | rfl)
        have HSx := Lib.hid hS
        clear hS
        go_simp
        refine wpAnyM_oneW (i := 15) rfl (by kernel_rfl) (by first | kernel_rfl | simp [Region.wanted, yielded, Act.put]) ?_
        go_wp2_with fail
        refine (HM5.out _ _ _ _ _ (O0_20.out.keep J24.out) (O0_20.out.keep J24.out)).mono ?_
        rintro e w25 ⟨u, rfl, hu, gq⟩
        have J25 : Hid (Grows w20 w25) := J24.out.trans gq
        have OU_25 := Lib.hid (OU_24.out.keep gq)
        clear OU_24
        have OV_25 := Lib.hid (OV_24.out.keep gq)
        clear OV_24
        clear J24
        have HSy := Lib.hid (CellsAre.keep HSx.out gq)
        clear gq HSx
        obtain ⟨AOW, nOW, cOW, hu'⟩ := OwnE.form3 hu
        subst hu'
        have OW_25 := Lib.hid hu
        clear hu
        go_wp2_with fail
        refine ⟨HSy.out, ?_⟩
        have hS := HSy.out
        clear HSy
        have HSx := Lib.hid hS
        clear hS
        go_simp
        refine wpAnyM_oneW (i := 17) rfl (by kernel_rfl) (by first | kernel_rfl | simp [Region.wanted, yielded, Act.put]) ?_
        go_wp2_with fail
        refine (equalLayer_own _ _ _ _ K _ hK20 OW_25.out (O0_20.out.keep J25.out)).mono ?_
        rintro e w26 ⟨rfl, gq⟩
        have J26 : Hid (Grows w20 w26) := J25.out.trans gq
        have OU_26 := Lib.hid (OU_25.out.keep gq)
        clear OU_25
        have OV_26 := Lib.hid (OV_25.out.keep gq)
        clear OV_25
        have OW_26 := Lib.hid (OW_25.out.keep gq)
        clear OW_25
        clear J25
        have HSy := Lib.hid (CellsAre.keep HSx.out gq)
        clear gq HSx
        go_wp2_with fail
        refine ⟨HSy.out, ?_⟩
        have hS := HSy.out
        clear HSy
        refine wpAnyM_take (i := 18) (v := .bool true) hB rfl (by kernel_rfl) (fun _ _ _ h => h) (by first | kernel_rfl | simp [Region.wanted, yielded, Act.put]) ?yzag18 hS ?nzag18
        case yzag18 => (intro w9 hSw; obtain ⟨s1, s2, s3, _⟩ := hSw; go_simp; first | done | with_reducible rfl | rfl)
        clear hS
        refine wpAnyM_tail (by kernel_rfl) ?_
        clear hB
        have T26 : Hid (Grows w1 w26) := T20.out.trans J26.out
        have O0_26 := Lib.hid (O0_20.out.keep J26.out)
        have L0_26 := Lib.hid (L0_20.out.keep J26.out)
        have X3_26 := Lib.hid (X3_20.out.keep J26.out)
        have X4_26 := Lib.hid (X4_20.out.keep J26.out)
        have O4_26 := Lib.hid (O4_20.out.keep J26.out)
        have X5_26 := Lib.hid (X5_20.out.keep J26.out)
        have OS_26 := Lib.hid (OS_20.out.keep J26.out)
        clear O0_20 L0_20 X3_20 X4_20 O4_20 X5_20 OS_20 T20 J26
        go_wp2
        go_ret
        exact ⟨rfl, (HG1.out.trans T26.out).below⟩
end Go.Proofs.YtcecjdjfbgmogaaDoor
