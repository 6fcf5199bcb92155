/-
  The drawn laws of EditText and ParseEdit. Condition: no more bytes than a slice may have.
-/
import Derived.Test.YthiefficgmokgaaDoorDEd
namespace Go.Proofs.YthiefficgmokgaaDoor
open Go.ChangeShapes Go.WideShapes Go.Deep Go.RowKit

/-- a call's end: a text of at most m bytes, at most d places further -/
def MutRet (m d g : Nat) (A : Option Addr) (n c p : Nat) (w : World) (e : Ending) (w' : World) : Prop := ∃ s : ByteArray, e = .returned (.string s) ∧ s.size ≤ m ∧ RdOn g A n c p d w w'
set_option maxRecDepth 100000 in
set_option maxHeartbeats 4000000 in
theorem mutate_any (g : Nat) (A : Option Addr) (n c p : Nat) (s : ByteArray) (w : World) (hs : s.size ≤ 4000) (hp : p ≤ 80000) (hn : n ≤ 2000) (h : Rd w g A n c p) :
    Calls Tryd.prog 29 #[.pointer (some ⟨g, 0, none⟩), .string s] w (MutRet (s.size + 41) 3 g A n c p w) := by
  have HP := Lib.hid (pick_any ((s.size : Int) + 1) g A n c p w (by omega) (by omega) (by omega) hn h)
  have HP2 := Lib.hid (fun w1 (h1 : Rd w1 g A n c (p + 1)) => pick_any 5 g A n c (p + 1) w1 (by omega) (by omega) (by omega) hn h1)
  unfold PickRet at HP HP2
  clear h
  go_enter Tryd.func29, Tryd.ntmps29
  go_wp2_with fail
  refine (HP.out).mono ?_
  rintro e w1 ⟨x, rfl, hx0, hx1, hr, hg⟩
  obtain ⟨i, rfl⟩ := Int.eq_ofNat_of_zero_le hx0
  have hi : i ≤ s.size := by have := hx1 (by omega); omega
  have R1 := Lib.hid hr
  have G1 := Lib.hid hg
  have hii : (i : Int) ≤ (s.size : Int) := by omega
  have hi0 : (0 : Int) ≤ (i : Int) := by omega
  have hs4 : (s.size : Int) ≤ 4000 := by omega
  clear hx0 hx1 hr hg HP
  go_wp2_with fail
  refine (HP2.out _ R1.out).mono ?_
  rintro e w2 ⟨y, rfl, hy0, hy1, hr, hg⟩
  have R2 := Lib.hid hr
  have G2 := Lib.hid (G1.out.trans hg)
  clear hr hg R1 G1 HP2
  have HSE : Hid (∃ q, p ≤ q ∧ q ≤ p + 3 ∧ Rd w2 g A n c q ∧ w.grownBy w2 (some g)) := ⟨p + 1 + 1, by omega, by omega, R2.out, G2.out⟩
  have hy5 : y < 5 := hy1 (by omega)
  clear hy1
  by_cases h01 : y = 0 ∨ y = 1
  · by_cases hlt : i < s.size
    · have hlti : (i : Int) < (s.size : Int) := by omega
      rcases h01 with rfl | rfl
      · go_upto_region 6 with (fail)
        have k9 : IntKind.i64.wrap ((i : Int) + 1) = (i : Int) + 1 := IntWalk.i64_in _ (by omega)
        have k8 : (0 : Int) ≤ (i : Int) + 1 := by omega
        have k7 : (i : Int) + 1 ≤ (s.size : Int) := by omega
        have k6 : ((i : Int) + 1).toNat = i + 1 := by omega
        refine wp_region_M 12 (fun _ => True) (by kernel_rfl) (by kernel_rfl) trivial (fun hB _ => ?_)
        refine wpAnyM_take (i := 0) (v := ?vm0) hB rfl (by kernel_rfl) (fun _ _ _ h => h) (by first | kernel_rfl | simp [Region.wanted, yielded, Act.put]) ?ym0 trivial ?nm0
        case ym0 => (intro w9 hSw; go_simp; first | done | with_reducible rfl | omega | skip)
        refine wpAnyM_take (i := 1) (v := ?vm1) hB rfl (by kernel_rfl) (fun _ _ _ h => h) (by first | kernel_rfl | simp [Region.wanted, yielded, Act.put]) ?ym1 trivial ?nm1
        case ym1 => (intro w9 hSw; go_simp; first | done | with_reducible rfl | omega | skip)
        refine wpAnyM_take (i := 2) (v := .string (s.extract 0 i)) hB rfl (by kernel_rfl) (fun _ _ _ h => h) (by first | kernel_rfl | simp [Region.wanted, yielded, Act.put]) ?ym2 trivial ?nm2
        case ym2 => (intro w9 hSw; go_simp; first | done | with_reducible rfl | omega | skip)
        refine wpAnyM_take (i := 3) (v := ?vm3) hB rfl (by kernel_rfl) (fun _ _ _ h => h) (by first | kernel_rfl | simp [Region.wanted, yielded, Act.put]) ?ym3 trivial ?nm3
        case ym3 => (intro w9 hSw; go_simp; first | done | with_reducible rfl | omega | skip)
        refine wpAnyM_take (i := 7) (v := ?vm7) hB rfl (by kernel_rfl) (fun _ _ _ h => h) (by first | kernel_rfl | simp [Region.wanted, yielded, Act.put]) ?ym7 trivial ?nm7
        case ym7 => (intro w9 hSw; go_simp; first | done | with_reducible rfl | omega | skip)
        refine wpAnyM_take (i := 8) (v := ?vm8) hB rfl (by kernel_rfl) (fun _ _ _ h => h) (by first | kernel_rfl | simp [Region.wanted, yielded, Act.put]) ?ym8 trivial ?nm8
        case ym8 => (intro w9 hSw; go_simp; first | done | with_reducible rfl | omega | skip)
        refine wpAnyM_take (i := 9) (v := .int .i64 ((i : Int) + 1)) hB rfl (by kernel_rfl) (fun _ _ _ h => h) (by first | kernel_rfl | simp [Region.wanted, yielded, Act.put]) ?ym9 trivial ?nm9
        case ym9 => (intro w9 hSw; go_simp; first | done | with_reducible rfl | omega | skip)
        refine wpAnyM_take (i := 10) (v := .string (s.extract (i + 1) s.size)) hB rfl (by kernel_rfl) (fun _ _ _ h => h) (by first | kernel_rfl | simp [Region.wanted, yielded, Act.put]) ?ym10 trivial ?nm10
        case ym10 => (intro w9 hSw; go_simp; first | done | with_reducible rfl | omega | skip)
        clear k6 k7 k8 k9
        refine wpAnyM_one (i := 4) rfl (by kernel_rfl) rfl ?_
        go_wp2_with fail
        refine wpAnyM_one (i := 5) rfl (by kernel_rfl) rfl ?_
        go_wp2_with fail
        have HA1 := of_any w2.heap.size 9 9 _ _ g A n c (p + 1 + 1) ((w2.alloc (.cells #[.string ⟨#[48]⟩, .string ⟨#[32]⟩, .string ⟨#[61]⟩, .string ⟨#[35]⟩, .string ⟨#[91]⟩, .string ⟨#[93]⟩, .string ⟨#[10]⟩, .string ⟨#[36]⟩, .string ⟨#[97]⟩] 9)).drew) (heap_alloc_new w2 _) rfl (by decide) (by decide) (by kernel_rfl) (Nat.ne_of_gt R2.out.lt) (by omega) hn ((R2.out.keep ((Grows.refl w2).alloc _)).keep (Grows.refl _).drew)
        refine HA1.mono ?_
        clear HA1
        rintro e w3 h3
        obtain ⟨t, rfl, ht, q3, a3, b3, r3, k3⟩ := StrRet.of h3 ((Grows.refl w2).alloc _).drew
        have hts : t.size ≤ 41 := ht
        have hz1 : (s.extract 0 i).size ≤ 4000 := Nat.le_trans (extract_le _ _ _) hs
        have hz2 : (s.extract (i + 1) s.size).size ≤ 4000 := Nat.le_trans (extract_le _ _ _) hs
        have hz3 : (s.extract 0 i ++ t).size ≤ 4041 := by rw [sz_append]; omega
        have HF : Hid ((s.extract 0 i ++ t ++ s.extract (i + 1) s.size).size ≤ s.size + 41 ∧ (∃ q, p ≤ q ∧ q ≤ p + 3 ∧ Rd w3 g A n c q ∧ w.grownBy w3 (some g))) := by
          refine ⟨?_, q3, by omega, by omega, r3, G2.out.trans k3⟩
          rw [sz_append, sz_append, ByteArray.size_extract, ByteArray.size_extract]
          omega
        clear r3 k3 h3 ht
        go_wp2_with fail
        refine wpAnyM_take (i := 6) (v := .string (s.extract 0 i ++ t)) hB rfl (by kernel_rfl) (fun _ _ _ h => h) (by first | kernel_rfl | simp [Region.wanted, yielded, Act.put]) ?ym6 trivial ?nm6
        case ym6 => (intro w9 hSw; go_simp; first | done | with_reducible rfl | omega | skip)
        refine wpAnyM_take (i := 11) (v := .string (s.extract 0 i ++ t ++ s.extract (i + 1) s.size)) hB rfl (by kernel_rfl) (fun _ _ _ h => h) (by first | kernel_rfl | simp [Region.wanted, yielded, Act.put]) ?ym11 trivial ?nm11
        case ym11 => (intro w9 hSw; go_simp; first | done | with_reducible rfl | omega | skip)
        refine wpAnyM_tail (by kernel_rfl) ?_
        clear hB
        go_wp2
        go_ret
        exact ⟨s.extract 0 i ++ t ++ s.extract (i + 1) s.size, rfl, HF.out.1, HF.out.2⟩
      · go_upto_region 6 with (fail)
        have k9 : IntKind.i64.wrap ((i : Int) + 1) = (i : Int) + 1 := IntWalk.i64_in _ (by omega)
        have k8 : (0 : Int) ≤ (i : Int) + 1 := by omega
        have k7 : (i : Int) + 1 ≤ (s.size : Int) := by omega
        have k6 : ((i : Int) + 1).toNat = i + 1 := by omega
        refine wp_region_M 12 (fun _ => True) (by kernel_rfl) (by kernel_rfl) trivial (fun hB _ => ?_)
        refine wpAnyM_take (i := 0) (v := ?vn0) hB rfl (by kernel_rfl) (fun _ _ _ h => h) (by first | kernel_rfl | simp [Region.wanted, yielded, Act.put]) ?yn0 trivial ?nn0
        case yn0 => (intro w9 hSw; go_simp; first | done | with_reducible rfl | omega | skip)
        refine wpAnyM_take (i := 1) (v := ?vn1) hB rfl (by kernel_rfl) (fun _ _ _ h => h) (by first | kernel_rfl | simp [Region.wanted, yielded, Act.put]) ?yn1 trivial ?nn1
        case yn1 => (intro w9 hSw; go_simp; first | done | with_reducible rfl | omega | skip)
        refine wpAnyM_take (i := 2) (v := .string (s.extract 0 i)) hB rfl (by kernel_rfl) (fun _ _ _ h => h) (by first | kernel_rfl | simp [Region.wanted, yielded, Act.put]) ?yn2 trivial ?nn2
        case yn2 => (intro w9 hSw; go_simp; first | done | with_reducible rfl | omega | skip)
        refine wpAnyM_take (i := 3) (v := ?vn3) hB rfl (by kernel_rfl) (fun _ _ _ h => h) (by first | kernel_rfl | simp [Region.wanted, yielded, Act.put]) ?yn3 trivial ?nn3
        case yn3 => (intro w9 hSw; go_simp; first | done | with_reducible rfl | omega | skip)
        refine wpAnyM_take (i := 7) (v := ?vn7) hB rfl (by kernel_rfl) (fun _ _ _ h => h) (by first | kernel_rfl | simp [Region.wanted, yielded, Act.put]) ?yn7 trivial ?nn7
        case yn7 => (intro w9 hSw; go_simp; first | done | with_reducible rfl | omega | skip)
        refine wpAnyM_take (i := 8) (v := ?vn8) hB rfl (by kernel_rfl) (fun _ _ _ h => h) (by first | kernel_rfl | simp [Region.wanted, yielded, Act.put]) ?yn8 trivial ?nn8
        case yn8 => (intro w9 hSw; go_simp; first | done | with_reducible rfl | omega | skip)
        refine wpAnyM_take (i := 9) (v := .int .i64 ((i : Int) + 1)) hB rfl (by kernel_rfl) (fun _ _ _ h => h) (by first | kernel_rfl | simp [Region.wanted, yielded, Act.put]) ?yn9 trivial ?nn9
        case yn9 => (intro w9 hSw; go_simp; first | done | with_reducible rfl | omega | skip)
        refine wpAnyM_take (i := 10) (v := .string (s.extract (i + 1) s.size)) hB rfl (by kernel_rfl) (fun _ _ _ h => h) (by first | kernel_rfl | simp [Region.wanted, yielded, Act.put]) ?yn10 trivial ?nn10
        case yn10 => (intro w9 hSw; go_simp; first | done | with_reducible rfl | omega | skip)
        clear k6 k7 k8 k9
        refine wpAnyM_one (i := 4) rfl (by kernel_rfl) rfl ?_
        go_wp2_with fail
        refine wpAnyM_one (i := 5) rfl (by kernel_rfl) rfl ?_
        go_wp2_with fail
        have HA1 := of_any w2.heap.size 9 9 _ _ g A n c (p + 1 + 1) ((w2.alloc (.cells #[.string ⟨#[48]⟩, .string ⟨#[32]⟩, .string ⟨#[61]⟩, .string ⟨#[35]⟩, .string ⟨#[91]⟩, .string ⟨#[93]⟩, .string ⟨#[10]⟩, .string ⟨#[36]⟩, .string ⟨#[97]⟩] 9)).drew) (heap_alloc_new w2 _) rfl (by decide) (by decide) (by kernel_rfl) (Nat.ne_of_gt R2.out.lt) (by omega) hn ((R2.out.keep ((Grows.refl w2).alloc _)).keep (Grows.refl _).drew)
        refine HA1.mono ?_
        clear HA1
        rintro e w3 h3
        obtain ⟨t, rfl, ht, q3, a3, b3, r3, k3⟩ := StrRet.of h3 ((Grows.refl w2).alloc _).drew
        have hts : t.size ≤ 41 := ht
        have hz1 : (s.extract 0 i).size ≤ 4000 := Nat.le_trans (extract_le _ _ _) hs
        have hz2 : (s.extract (i + 1) s.size).size ≤ 4000 := Nat.le_trans (extract_le _ _ _) hs
        have hz3 : (s.extract 0 i ++ t).size ≤ 4041 := by rw [sz_append]; omega
        have HF : Hid ((s.extract 0 i ++ t ++ s.extract (i + 1) s.size).size ≤ s.size + 41 ∧ (∃ q, p ≤ q ∧ q ≤ p + 3 ∧ Rd w3 g A n c q ∧ w.grownBy w3 (some g))) := by
          refine ⟨?_, q3, by omega, by omega, r3, G2.out.trans k3⟩
          rw [sz_append, sz_append, ByteArray.size_extract, ByteArray.size_extract]
          omega
        clear r3 k3 h3 ht
        go_wp2_with fail
        refine wpAnyM_take (i := 6) (v := .string (s.extract 0 i ++ t)) hB rfl (by kernel_rfl) (fun _ _ _ h => h) (by first | kernel_rfl | simp [Region.wanted, yielded, Act.put]) ?yn6 trivial ?nn6
        case yn6 => (intro w9 hSw; go_simp; first | done | with_reducible rfl | omega | skip)
        refine wpAnyM_take (i := 11) (v := .string (s.extract 0 i ++ t ++ s.extract (i + 1) s.size)) hB rfl (by kernel_rfl) (fun _ _ _ h => h) (by first | kernel_rfl | simp [Region.wanted, yielded, Act.put]) ?yn11 trivial ?nn11
        case yn11 => (intro w9 hSw; go_simp; first | done | with_reducible rfl | omega | skip)
        refine wpAnyM_tail (by kernel_rfl) ?_
        clear hB
        go_wp2
        go_ret
        exact ⟨s.extract 0 i ++ t ++ s.extract (i + 1) s.size, rfl, HF.out.1, HF.out.2⟩
    · obtain rfl : i = s.size := by omega
      have hlti : ¬ ((s.size : Nat) : Int) < (s.size : Int) := by omega
      rcases h01 with rfl | rfl
      all_goals
        go_wp2
        go_ret
        exact ⟨s, rfl, by omega, HSE.out⟩
  · have n0 : (y == 0) = false := beq_eq_false_iff_ne.2 (by omega)
    have n1 : (y == 1) = false := beq_eq_false_iff_ne.2 (by omega)
    by_cases h2 : y = 2
    · subst h2
      clear h01 hy0 hy5 n0 n1
      have HZ := Lib.hid (extract_le s 0 i)
      go_wp2
      go_ret
      exact ⟨s.extract 0 i, rfl, Nat.le_trans HZ.out (by omega), HSE.out⟩
    · have n2 : (y == 2) = false := beq_eq_false_iff_ne.2 h2
      by_cases h3 : y = 3
      · subst h3
        clear h01 h2 hy0 hy5 n0 n1 n2
        have hsz : s.size ≤ 4000 := hs
        go_wp2_with fail
        refine (of_any w2.heap.size 5 _ _ _ g A n c (p + 1 + 1) _ (heap_alloc_new w2 _) rfl (by decide) (by decide) (by kernel_rfl) (Nat.ne_of_gt R2.out.lt) (by omega) hn (R2.out.keep ((Grows.refl w2).alloc _))).mono ?_
        rintro e w3 h3
        obtain ⟨t, rfl, ht, q3, a3, b3, r3, k3⟩ := StrRet.of h3 ((Grows.refl w2).alloc _)
        have hts : t.size ≤ 41 := ht
        have HF : Hid ((s ++ t).size ≤ s.size + 41 ∧ (∃ q, p ≤ q ∧ q ≤ p + 3 ∧ Rd w3 g A n c q ∧ w.grownBy w3 (some g))) := ⟨by rw [sz_append]; omega, q3, by omega, by omega, r3, G2.out.trans k3⟩
        clear r3 k3 h3 ht
        go_wp2
        go_ret
        exact ⟨s ++ t, rfl, HF.out.1, HF.out.2⟩
      · have n3 : (y == 3) = false := beq_eq_false_iff_ne.2 h3
        clear h01 h2 h3 hy0 hy5
        go_wp2
        go_ret
        exact ⟨s, rfl, by omega, HSE.out⟩

set_option maxHeartbeats 1000000 in
theorem DrawEditText_any (A : Option Addr) (n c : Nat) (w : World) (hn : n ≤ maxLen) (hc : n ≤ c) (h : BytesAt w A n) :
    Calls Tryd.prog 14 #[.slice A n c] w fun e w' => ∃ (r k : ByteArray) (d : Bool) (v : ByteArray), e = .returned (.agg #[.string r, .string k, .bool d, .string v]) ∧ (r.size ≤ 41 ∧ k.size ≤ 41 ∧ v.size ≤ 41) ∧ Grows w w' := by
  have HB := Lib.hid (h.keep ((Grows.refl w).alloc (.cells #[.string ⟨#[]⟩, .string ⟨#[]⟩, .bool false, .string ⟨#[]⟩] 26)))
  have B0 := Lib.hid (EdBox.new w ⟨#[]⟩ ⟨#[]⟩ false ⟨#[]⟩)
  have GW : Hid (Grows w (w.alloc (.cells #[.string ⟨#[]⟩, .string ⟨#[]⟩, .bool false, .string ⟨#[]⟩] 26))) := (Grows.refl w).alloc _
  have hz : w.heap.size < (w.alloc (.cells #[.string ⟨#[]⟩, .string ⟨#[]⟩, .bool false, .string ⟨#[]⟩] 26)).heap.size := by simp
  clear h
  go_enter Tryd.func14, Tryd.ntmps14
  go_upto_region 1 with (fail)
  obtain ⟨w0, hw0⟩ : ∃ w0, w.alloc (.cells #[.string ⟨#[]⟩, .string ⟨#[]⟩, .bool false, .string ⟨#[]⟩] 26) = w0 := ⟨_, rfl⟩
  rw [hw0] at HB B0 GW hz ⊢
  clear hw0
  go_wp2_with fail
  refine (newReader_any A n c _ hn hc HB.out).mono ?_
  rintro e w1 ⟨A1, n1, c1, g, rfl, hn1, hg, r1, k1⟩
  have R1 := Lib.hid r1
  have G1 : Hid (Grows w w1) := GW.out.trans k1
  have B1 := Lib.hid (row_grow B0.out k1)
  clear r1 k1 HB GW B0
  go_wp2_with fail
  refine (someEdit_any g A1 n1 c1 0 _ (by omega) hn1 R1.out).mono ?_
  rintro e w2 ⟨r, k, d, v, rfl, hs, q2, a2, b2, r2, k2⟩
  have HS := Lib.hid hs
  have B2 := Lib.hid (row_keep B1.out k2 (by omega))
  have G2 : Hid (Grows w w2) := G1.out.mark k2 (fun i hi => by injection hi with hi; omega)
  have e0 := EdBox.c0 B2.out
  have e1 := EdBox.c1 B2.out
  have e2 := EdBox.c2 B2.out
  have e3 := EdBox.c3 B2.out
  have f0 := EdBox.fr B2.out 0
  have f1 := EdBox.fr B2.out 1
  have f2 := EdBox.fr B2.out 2
  have f3 := EdBox.fr B2.out 3
  clear r2 k2 hs G1 B1 R1
  go_wp2
  refine bodyPost_ret (v := .agg #[.string r, .string k, .bool d, .string v]) (by simp [results, Tryd.results14, go_sem, e0, e1, e2, e3]) rfl ⟨r, k, d, v, rfl, HS.out, ?_⟩
  exact (((G2.out.setCell (by exact Nat.le_refl _) _).setCell (by exact Nat.le_refl _) _).setCell (by exact Nat.le_refl _) _).setCell (by exact Nat.le_refl _) _

theorem edTB_size (r k : ByteArray) (d : Bool) (v : ByteArray) : (edTB r k d v).size ≤ r.size + k.size + v.size + 4 := by
  have h := plT_size r k
  have h2 : (⟨#[32, 45]⟩ : ByteArray).size = 2 := rfl
  have h3 : (⟨#[32, 61, 32]⟩ : ByteArray).size = 3 := rfl
  unfold edTB edT
  split
  · split
    · rw [sz_append]; omega
    · rw [sz_append, sz_append]; omega
  · exact Nat.zero_le _
set_option maxHeartbeats 2000000 in
theorem DrawParseEdit_any (A : Option Addr) (n c : Nat) (w : World) (hn : n ≤ maxLen) (hc : n ≤ c) (h : BytesAt w A n) :
    Calls Tryd.prog 15 #[.slice A n c] w fun e w' => ∃ s : ByteArray, e = .returned (.string s) ∧ s.size ≤ 200 ∧ Grows w w' := by
  have HB := Lib.hid h
  clear h
  go_enter Tryd.func15, Tryd.ntmps15
  go_wp2_with fail
  refine (newReader_any A n c _ hn hc HB.out).mono ?_
  rintro e w1 ⟨A1, n1, c1, g, rfl, hn1, hg, r1, k1⟩
  have R1 := Lib.hid r1
  have G1 := Lib.hid k1
  have HG := Lib.hid hg
  clear r1 k1 HB
  go_wp2_with fail
  refine (someEdit_any g A1 n1 c1 0 _ (by omega) hn1 R1.out).mono ?_
  rintro e w2 ⟨r, k, d, v, rfl, hs, q2, a2, b2, r2, k2⟩
  have HSE := Lib.hid (fun w => specEd_any r k d v w (by omega) (by omega) (by omega))
  have hsz := edTB_size r k d v
  have R2 := Lib.hid r2
  have G2 : Hid (Grows w w2) := G1.out.mark k2 (fun i hi => by injection hi with hi; omega)
  have hq2 : q2 ≤ 6 := by omega
  generalize edTB r k d v = t at HSE hsz
  have ht : t.size ≤ 127 := by omega
  clear r2 k2 hs hsz G1 R1
  go_wp2_with fail
  refine (HSE.out _).mono ?_
  rintro e w3 ⟨rfl, g3⟩
  have R3 := Lib.hid (R2.out.keep g3)
  have G3 : Hid (Grows w w3) := G2.out.trans g3
  clear g3 R2 G2 HSE
  have HP := Lib.hid (pick_any 3 g A1 n1 c1 q2 w3 (by omega) (by omega) (by omega) hn1 R3.out)
  unfold PickRet at HP
  go_wp2_with fail
  refine (HP.out).mono ?_
  rintro e w4 ⟨x, rfl, hx0, hx1, hr, hgx⟩
  have R4 := Lib.hid hr
  have G4 : Hid (Grows w w4) := G3.out.mark hgx (fun i hi => by injection hi with hi; omega)
  clear hx0 hx1 hr hgx R3 G3 HP
  by_cases hx : x = 0
  · subst hx
    have HM := Lib.hid (mutate_any g A1 n1 c1 (q2 + 1) t w4 (by omega) (by omega) hn1 R4.out)
    unfold MutRet at HM
    go_wp2_with fail
    refine (HM.out).mono ?_
    rintro e w5 ⟨u, rfl, hu, q5, a5, b5, r5, k5⟩
    have HU : Hid (u.size ≤ 200) := by unfold Hid; omega
    have G5 : Hid (Grows w w5) := G4.out.mark k5 (fun i hi => by injection hi with hi; omega)
    clear hu r5 k5
    go_wp2
    go_ret
    exact ⟨u, rfl, HU.out, G5.out⟩
  · have hb : (x == 0) = false := beq_eq_false_iff_ne.2 hx
    have HU : Hid (t.size ≤ 200) := by unfold Hid; omega
    clear hx
    go_wp2
    go_ret
    exact ⟨t, rfl, HU.out, G4.out⟩

set_option maxHeartbeats 4000000 in
theorem dEd_any (A : Option Addr) (n c : Nat) (w : World) (hn : n ≤ maxLen) (hc : n ≤ c) (h : BytesAt w A n) :
    Calls Tryd.prog 5 #[.slice A n c] w fun e w' => e = .returned (.bool true) ∧ Below w.heap.size w w' := by
  by_cases hbig : 1048576 < n
  · clear h
    unfold maxLen at hn
    go_enter Tryd.func5, Tryd.ntmps5
    go_wp2
    go_ret
    exact ⟨rfl, (Grows.refl _).below⟩
  · have HD := Lib.hid (DrawEditText_any A n c w hn hc h)
    clear h
    unfold maxLen at hn
    go_enter Tryd.func5, Tryd.ntmps5
    go_wp2_with fail
    refine (HD.out).mono ?_
    rintro e w1 ⟨r, k, d, v, rfl, hrk, g1⟩
    have HI := Lib.hid (fun w2 => implEd_any r k d v w2 (by omega) (by omega) (by omega))
    have HS := Lib.hid (fun w2 => specEd_any r k d v w2 (by omega) (by omega) (by omega))
    have HG1 := Lib.hid g1
    have hsz := edTB_size r k d v
    have HPP := Lib.hid (fun w2 => implPEd_any (edTB r k d v) w2 (by omega))
    clear g1 HD hrk
    have heq := fun w => eqEditSelf r k d v w
    go_upto_region 4 with (fail)
    have B1 := Lib.hid (EdBox.new w1 r k d v)
    have HG2 : Hid (Grows w (w1.alloc (.cells #[.string r, .string k, .bool d, .string v] 26))) := HG1.out.alloc _
    generalize w1.heap.size = bB1 at B1 ⊢
    obtain ⟨w2, hw2⟩ : ∃ w', w1.alloc (.cells #[.string r, .string k, .bool d, .string v] 26) = w' := ⟨_, rfl⟩
    rw [hw2] at B1 HG2 ⊢
    clear hw2 HG1
    by_cases hv : vedit r k d v = true
    · have e1 : edTB r k d v = edT r k d v := by unfold edTB; rw [if_pos hv]
      have e9 := ed_read hv
      rw [e1] at HI HS HPP
      obtain ⟨a1, a2, a3, a4, a5⟩ := e9
      obtain ⟨z1, z2, z3, z4⟩ := ed_yes a1
      rw [z1, z2, z3, z4, a1, a2, a3, a4, a5] at HPP
      have hne : (edT r k d v).toList.isEmpty = false := by
        refine isEmpty_ne ?_
        unfold edT
        split
        · rw [sz_append]; have : (⟨#[32, 45]⟩ : ByteArray).size = 2 := rfl; omega
        · rw [sz_append, sz_append]; have : (⟨#[32, 61, 32]⟩ : ByteArray).size = 3 := rfl; omega
      generalize edT r k d v = t at HI HS HPP hne
      clear hv e1 a1 a2 a3 a4 a5 z1 z2 z3 z4 hsz
      have B1x0 := B1.out.c0
      have B1x1 := B1.out.c1
      have B1x2 := B1.out.c2
      have B1x3 := B1.out.c3
      go_wp2_with fail
      refine (HI.out _).mono ?_
      rintro e w3 ⟨rfl, g3⟩
      have HG3 : Hid (Grows w w3) := HG2.out.trans g3
      clear B1x0 B1x1 B1x2 B1x3
      have B1n := Lib.hid (B1.out.keep g3)
      clear B1
      have B1 := B1n
      clear B1n
      clear g3 HG2
      have B1x0 := B1.out.c0
      have B1x1 := B1.out.c1
      have B1x2 := B1.out.c2
      have B1x3 := B1.out.c3
      go_wp2_with fail
      refine (HS.out _).mono ?_
      rintro e w4 ⟨rfl, g4⟩
      have HG4 : Hid (Grows w w4) := HG3.out.trans g4
      clear B1x0 B1x1 B1x2 B1x3
      have B1n := Lib.hid (B1.out.keep g4)
      clear B1
      have B1 := B1n
      clear B1n
      clear g4 HG3
      have B1x0 := B1.out.c0
      have B1x1 := B1.out.c1
      have B1x2 := B1.out.c2
      have B1x3 := B1.out.c3
      go_wp2_with fail
      refine (HPP.out _).mono ?_
      rintro e w5 ⟨rfl, g5⟩
      have HG5 : Hid (Grows w w5) := HG4.out.trans g5
      clear B1x0 B1x1 B1x2 B1x3
      have B1n := Lib.hid (B1.out.keep g5)
      clear B1
      have B1 := B1n
      clear B1n
      clear g5 HG4
      go_upto_region 8 with (fail)
      have D1 := Lib.hid (EdBox.new w5 r k d v)
      have B1n := Lib.hid (B1.out.keep ((Grows.refl w5).alloc (.cells #[.string r, .string k, .bool d, .string v] 26)))
      have HG6 : Hid (Grows w (w5.alloc (.cells #[.string r, .string k, .bool d, .string v] 26))) := HG5.out.alloc _
      generalize w5.heap.size = bD1 at D1 ⊢
      obtain ⟨w6, hw6⟩ : ∃ w', w5.alloc (.cells #[.string r, .string k, .bool d, .string v] 26) = w' := ⟨_, rfl⟩
      rw [hw6] at D1 B1n HG6 ⊢
      clear hw6 HG5
      clear B1
      have B1 := B1n
      clear B1n
      have B1x0 := B1.out.c0
      have B1x1 := B1.out.c1
      have B1x2 := B1.out.c2
      have B1x3 := B1.out.c3
      have D1x0 := D1.out.c0
      have D1x1 := D1.out.c1
      have D1x2 := D1.out.c2
      have D1x3 := D1.out.c3
      go_wp2
      go_ret
      exact ⟨rfl, HG6.out.below⟩
    · have e1 : edTB r k d v = ⟨#[]⟩ := by unfold edTB; rw [if_neg hv]
      rw [e1] at HI HS
      clear hv e1 HPP hsz
      have B1x0 := B1.out.c0
      have B1x1 := B1.out.c1
      have B1x2 := B1.out.c2
      have B1x3 := B1.out.c3
      go_wp2_with fail
      refine (HI.out _).mono ?_
      rintro e w3 ⟨rfl, g3⟩
      have HG3 : Hid (Grows w w3) := HG2.out.trans g3
      clear B1x0 B1x1 B1x2 B1x3
      have B1n := Lib.hid (B1.out.keep g3)
      clear B1
      have B1 := B1n
      clear B1n
      clear g3 HG2
      have B1x0 := B1.out.c0
      have B1x1 := B1.out.c1
      have B1x2 := B1.out.c2
      have B1x3 := B1.out.c3
      go_wp2_with fail
      refine (HS.out _).mono ?_
      rintro e w4 ⟨rfl, g4⟩
      have HG4 : Hid (Grows w w4) := HG3.out.trans g4
      clear B1x0 B1x1 B1x2 B1x3
      have B1n := Lib.hid (B1.out.keep g4)
      clear B1
      have B1 := B1n
      clear B1n
      clear g4 HG3
      have B1x0 := B1.out.c0
      have B1x1 := B1.out.c1
      have B1x2 := B1.out.c2
      have B1x3 := B1.out.c3
      go_wp2_with fail
      refine (HS.out _).mono ?_
      rintro e w5 ⟨rfl, g5⟩
      have HG5 : Hid (Grows w w5) := HG4.out.trans g5
      clear B1x0 B1x1 B1x2 B1x3
      have B1n := Lib.hid (B1.out.keep g5)
      clear B1
      have B1 := B1n
      clear B1n
      clear g5 HG4
      go_wp2
      go_ret
      exact ⟨rfl, HG5.out.below⟩

set_option maxHeartbeats 4000000 in
theorem dPEd_any (A : Option Addr) (n c : Nat) (w : World) (hn : n ≤ maxLen) (hc : n ≤ c) (h : BytesAt w A n) :
    Calls Tryd.prog 6 #[.slice A n c] w fun e w' => e = .returned (.bool true) ∧ Below w.heap.size w w' := by
  by_cases hbig : 1048576 < n
  · clear h
    unfold maxLen at hn
    go_enter Tryd.func6, Tryd.ntmps6
    go_wp2
    go_ret
    exact ⟨rfl, (Grows.refl _).below⟩
  · have HD := Lib.hid (DrawParseEdit_any A n c w hn hc h)
    clear h
    unfold maxLen at hn
    go_enter Tryd.func6, Tryd.ntmps6
    go_wp2_with fail
    refine (HD.out).mono ?_
    rintro e w1 ⟨s, rfl, hs, g1⟩
    have HI := Lib.hid (fun w2 => implPEd_any s w2 (by omega))
    have HS := Lib.hid (fun w2 => specPEd_any s w2 (by omega))
    have HG1 := Lib.hid g1
    have HPT := Lib.hid (fun (h : pedB s = true) => show edTB (edS s) (edK s) (edD s) (edV s) = s by
      obtain ⟨z1, z2, z3, z4⟩ := ed_yes h
      obtain ⟨y1, y2⟩ := ped_text h
      rw [z1, z2, z3, z4]
      unfold edTB
      rw [if_pos y1, y2])
    have HT := Lib.hid (fun w2 => implEd_any (edS s) (edK s) (edD s) (edV s) w2 (Nat.le_trans (edS_le s) (by omega)) (Nat.le_trans (edK_le s) (by omega)) (Nat.le_trans (edV_le s) (by omega)))
    clear g1 HD hs
    generalize edS s = a at HI HS HPT HT
    generalize edK s = b at HI HS HPT HT
    generalize edD s = d at HI HS HPT HT
    generalize edV s = v at HI HS HPT HT
    obtain ⟨β, hβ⟩ : ∃ β, pedB s = β := ⟨_, rfl⟩
    rw [hβ] at HI HS HPT
    clear hβ
    have HE := Lib.hid (fun w1 => equalEditL_any a b d v w1)
    go_upto_region 4 with (fail)
    go_wp2_with fail
    refine (HI.out _).mono ?_
    rintro e w2 ⟨rfl, g2⟩
    have HG2 : Hid (Grows w w2) := HG1.out.trans g2
    clear g2 HG1
    go_upto_region 5 with (fail)
    have B1 := Lib.hid (EdBox.new w2 a b d v)
    have HG3 : Hid (Grows w (w2.alloc (.cells #[.string a, .string b, .bool d, .string v] 26))) := HG2.out.alloc _
    generalize w2.heap.size = bB1 at B1 ⊢
    obtain ⟨w3, hw3⟩ : ∃ w', w2.alloc (.cells #[.string a, .string b, .bool d, .string v] 26) = w' := ⟨_, rfl⟩
    rw [hw3] at B1 HG3 ⊢
    clear hw3 HG2
    have B1x0 := B1.out.c0
    have B1x1 := B1.out.c1
    have B1x2 := B1.out.c2
    have B1x3 := B1.out.c3
    go_wp2_with fail
    refine (HS.out _).mono ?_
    rintro e w4 ⟨rfl, g4⟩
    have HG4 : Hid (Grows w w4) := HG3.out.trans g4
    clear B1x0 B1x1 B1x2 B1x3
    have B1n := Lib.hid (B1.out.keep g4)
    clear B1
    have B1 := B1n
    clear B1n
    clear g4 HG3
    go_upto_region 6 with (fail)
    have D1 := Lib.hid (EdBox.new w4 a b d v)
    have B1n := Lib.hid (B1.out.keep ((Grows.refl w4).alloc (.cells #[.string a, .string b, .bool d, .string v] 26)))
    have HG5 : Hid (Grows w (w4.alloc (.cells #[.string a, .string b, .bool d, .string v] 26))) := HG4.out.alloc _
    generalize w4.heap.size = bD1 at D1 ⊢
    obtain ⟨w5, hw5⟩ : ∃ w', w4.alloc (.cells #[.string a, .string b, .bool d, .string v] 26) = w' := ⟨_, rfl⟩
    rw [hw5] at D1 B1n HG5 ⊢
    clear hw5 HG4
    clear B1
    have B1 := B1n
    clear B1n
    rcases β with _ | _
    · clear HPT HT
      have B1x0 := B1.out.c0
      have B1x1 := B1.out.c1
      have B1x2 := B1.out.c2
      have B1x3 := B1.out.c3
      have D1x0 := D1.out.c0
      have D1x1 := D1.out.c1
      have D1x2 := D1.out.c2
      have D1x3 := D1.out.c3
      go_wp2_with fail
      refine (HE.out _).mono ?_
      rintro e w6 ⟨rfl, g6⟩
      have HG6 : Hid (Grows w w6) := HG5.out.trans g6
      clear B1x0 B1x1 B1x2 B1x3
      have B1n := Lib.hid (B1.out.keep g6)
      clear B1
      have B1 := B1n
      clear B1n
      clear D1x0 D1x1 D1x2 D1x3
      have D1n := Lib.hid (D1.out.keep g6)
      clear D1
      have D1 := D1n
      clear D1n
      clear g6 HG5
      have B1x0 := B1.out.c0
      have B1x1 := B1.out.c1
      have B1x2 := B1.out.c2
      have B1x3 := B1.out.c3
      have D1x0 := D1.out.c0
      have D1x1 := D1.out.c1
      have D1x2 := D1.out.c2
      have D1x3 := D1.out.c3
      go_wp2_with fail
      refine (HE.out _).mono ?_
      rintro e w7 ⟨rfl, g7⟩
      have HG7 : Hid (Grows w w7) := HG6.out.trans g7
      clear B1x0 B1x1 B1x2 B1x3
      have B1n := Lib.hid (B1.out.keep g7)
      clear B1
      have B1 := B1n
      clear B1n
      clear D1x0 D1x1 D1x2 D1x3
      have D1n := Lib.hid (D1.out.keep g7)
      clear D1
      have D1 := D1n
      clear D1n
      clear g7 HG6
      go_wp2
      go_ret
      exact ⟨rfl, HG7.out.below⟩
    · have hpt := HPT.out rfl
      rw [hpt] at HT
      clear HPT hpt
      have B1x0 := B1.out.c0
      have B1x1 := B1.out.c1
      have B1x2 := B1.out.c2
      have B1x3 := B1.out.c3
      have D1x0 := D1.out.c0
      have D1x1 := D1.out.c1
      have D1x2 := D1.out.c2
      have D1x3 := D1.out.c3
      go_wp2_with fail
      refine (HE.out _).mono ?_
      rintro e w6 ⟨rfl, g6⟩
      have HG6 : Hid (Grows w w6) := HG5.out.trans g6
      clear B1x0 B1x1 B1x2 B1x3
      have B1n := Lib.hid (B1.out.keep g6)
      clear B1
      have B1 := B1n
      clear B1n
      clear D1x0 D1x1 D1x2 D1x3
      have D1n := Lib.hid (D1.out.keep g6)
      clear D1
      have D1 := D1n
      clear D1n
      clear g6 HG5
      have B1x0 := B1.out.c0
      have B1x1 := B1.out.c1
      have B1x2 := B1.out.c2
      have B1x3 := B1.out.c3
      have D1x0 := D1.out.c0
      have D1x1 := D1.out.c1
      have D1x2 := D1.out.c2
      have D1x3 := D1.out.c3
      go_wp2_with fail
      refine (HT.out _).mono ?_
      rintro e w7 ⟨rfl, g7⟩
      have HG7 : Hid (Grows w w7) := HG6.out.trans g7
      clear B1x0 B1x1 B1x2 B1x3
      have B1n := Lib.hid (B1.out.keep g7)
      clear B1
      have B1 := B1n
      clear B1n
      clear D1x0 D1x1 D1x2 D1x3
      have D1n := Lib.hid (D1.out.keep g7)
      clear D1
      have D1 := D1n
      clear D1n
      clear g7 HG6
      go_wp2
      go_ret
      exact ⟨rfl, HG7.out.below⟩
end Go.Proofs.YthiefficgmokgaaDoor
