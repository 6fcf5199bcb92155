/-
  What the drawn laws' generator makes of files with a key: keyIn. Conditions: the reader's place is at most 40000.
-/
import Derived.Test.YtdedidcjbocicaaGSome
namespace Go.Proofs.Ytdedidcjbocicaa
open Go.RowKit

theorem nowAt_short {K : List Ln} (h : ShortL K) : ∀ k, k ≤ K.length → (nowAt K k).size ≤ 41 := by
  intro k
  induction k with
  | zero => intro _; show (⟨#[]⟩ : ByteArray).size ≤ 41; decide
  | succ k ih =>
    intro hk
    have hk2 : k < K.length := by omega
    rw [nowAt_succ hk2]
    split
    · exact (h K[k] (List.getElem_mem hk2)).2.2.1
    · exact ih (by omega)
/-- a call's end: a file, a section and a key -/
def KeyGen (d g : Nat) (A : Option Addr) (n c p : Nat) (w : World) (e : Ending) (w' : World) : Prop :=
  ∃ (v : Value) (K : List Ln) (s key : ByteArray), e = .returned (.tuple #[.agg #[v], .string s, .string key]) ∧ (ShortL K ∧ K.length ≤ 100) ∧ OwnL w' w.heap.size v K ∧ (s.size ≤ 41 ∧ key.size ≤ 41) ∧ RdOn g A n c p d w w'

set_option maxRecDepth 100000 in
set_option maxHeartbeats 4000000 in
theorem keyIn_any (g : Nat) (A : Option Addr) (n c p : Nat) (w : World) (hp : p ≤ 40000) (hn : n ≤ 2000) (h : Rd w g A n c p) :
    Calls Try.prog 28 #[.pointer (some ⟨g, 0, none⟩)] w (KeyGen 1200 g A n c p w) := by
  have H0 := Lib.hid h
  have HR := Lib.hid (fun o => h.keep ((Grows.refl w).alloc o))
  have hgl := h.lt
  clear h
  go_enter Try.func28, Try.ntmps28
  go_wp2_with fail
  refine (someFile_any g A n c p _ (by omega) hn (HR.out _)).mono ?_
  rintro e w1 ⟨v, K, rfl, hS, hK1, hO, q1, a1, b1, r1, k1⟩
  rw [World.size_alloc] at hO
  have hs1 : w.heap.size < w1.heap.size := Nat.lt_of_lt_of_le (by simp) k1.size
  have X0 : Hid (Box (w1.alloc (.cells #[v] 25)) w.heap.size (.slice none 0 0) 25) := row_grow (row_keep (heap_alloc_new w _) k1 (by omega)) ((Grows.refl _).alloc _)
  have XX : Hid (Box (w1.alloc (.cells #[v] 25)) w1.heap.size v 25) := heap_alloc_new w1 _
  have O2 : Hid (OwnL (w1.alloc (.cells #[v] 25)) (w.heap.size + 1) v K) := hO.keep ((Grows.refl _).alloc _)
  have R2 : Hid (Rd (w1.alloc (.cells #[v] 25)) g A n c q1) := r1.keep ((Grows.refl _).alloc _)
  have G2 : Hid (w.grownBy (w1.alloc (.cells #[v] 25)) (some g)) := gb_grows ((gb_of ((Grows.refl w).alloc _)).trans k1) ((Grows.refl _).alloc _)
  have SS := Lib.hid hS
  have hgw1 : g < w1.heap.size := by omega
  have VLT : Hid (∀ i, v.ownBlock = some i → w.heap.size + 1 ≤ i ∧ i < w1.heap.size) := hO.lt
  obtain ⟨A0, c0, rfl, _⟩ := hO.form
  obtain ⟨m, hm⟩ : ∃ m, K.length = m := ⟨_, rfl⟩
  rw [hm] at X0 XX O2 R2 G2 VLT ⊢
  have hm1 : m ≤ 100 := by omega
  have HM := Lib.hid hm
  obtain ⟨w2, hw2⟩ : ∃ w2, w1.alloc (.cells #[.slice A0 m c0] 25) = w2 := ⟨_, rfl⟩
  have HW2 := Lib.hid hw2
  have hs2 : w2.heap.size = w1.heap.size + 1 := by rw [← hw2]; exact World.size_alloc _ _
  have HS2 : Hid (w1.heap.size < w2.heap.size) := by unfold Hid; omega
  rw [hw2] at X0 XX O2 R2 G2
  clear hw2 hs2 hS r1 k1 hO hm hK1
  go_upto_region 2 with (fail)
  rw [HW2.out]
  clear HW2
  have h1 := XX.out.cell
  go_wp2_with fail
  refine (pick_any ((m : Int) + 1) g A n c q1 _ (by omega) (by omega) (by omega) hn R2.out).mono ?_
  rintro e w3 ⟨x, rfl, hx0, hx1, r3, k3⟩
  obtain ⟨j0, rfl⟩ := Int.eq_ofNat_of_zero_le hx0
  have hj0 : j0 ≤ m := by have := hx1 (by omega); omega
  have R3 := Lib.hid r3
  have X3 := Lib.hid (XX.out.far k3 (by intro e; injection e with e; omega))
  have Z3 := Lib.hid (X0.out.far k3 (by intro e; injection e with e; omega))
  have O3 := Lib.hid (O2.out.far k3 (fun k hk e => by injection e with e; have := (O2.out.lt k hk).1; omega))
  have G3 : Hid (w.grownBy w3 (some g)) := G2.out.trans k3
  have S3 : Hid (w1.heap.size < w3.heap.size) := by have := k3.size; have := HS2.out; unfold Hid; omega
  clear hx1 hx0 r3 k3 h1 XX X0 O2 R2 G2 HS2
  go_wp2_with fail
  go_loopw [7] (fun i wr => ∃ (j q : Nat), i = .int .i64 j ∧ j ≤ m ∧ p ≤ q ∧ q ≤ p + 901 + j ∧ Hid (OwnL wr (w.heap.size + 1) (.slice A0 m c0) K) ∧ Hid (Box wr w1.heap.size (.slice A0 m c0) 25) ∧ Hid (Box wr w.heap.size (.slice none 0 0) 25) ∧ Hid (Rd wr g A n c q) ∧ Hid (w.grownBy wr (some g))) (fun i _ => m - (intOf i).toNat)
  case atStart => exact ⟨j0, q1 + 1, rfl, hj0, by omega, by omega, O3.out, X3.out, Z3.out, R3.out, G3.out⟩
  case round =>
    clear O3 X3 Z3 R3 G3
    obtain ⟨j, q, rfl, hj, hq0, hq1, HO, HX, HZ, HRd, HG⟩ := hrel
    have hbo := HX.out.cell
    by_cases hlt : j < m
    · have hjK : j < K.length := by rw [HM.out]; exact hlt
      obtain ⟨gv, c9, hv9, hgv0, hgv1⟩ := HO.out.row (by omega)
      injection hv9 with hv1 hv2 hv3
      subst hv1
      have HNG : Hid (gv ≠ g) := by unfold Hid; omega
      have hgw : Hid (gv < w1.heap.size) := (VLT.out gv rfl).2
      have HLA := Lib.hid (HO.out.atg HM.out j hjK)
      have hsh := SS.out K[j] (List.getElem_mem hjK)
      obtain ⟨l, hl⟩ : ∃ l, K[j] = l := ⟨_, rfl⟩
      rw [hl] at HLA hsh
      have HKL := Lib.hid hl
      have HNA : Hid (l.na.size ≤ 41) := hsh.2.2.1
      clear hl hsh hv2 hv3
      obtain ⟨d0, d1, d2, d3, d4, d5⟩ := HLA.out
      by_cases h3 : l.k = 3
      · have h3b : (l.k == 3) = true := by rw [h3]; rfl
        clear h3 d1 d2 d3 d4 d5
        go_wp2_with fail
        refine (pick_any 6 g A n c q _ (by omega) (by omega) (by omega) hn HRd.out).mono ?_
        rintro e w5 ⟨x, rfl, hx0, hx1, r5, k5⟩
        have R5 := Lib.hid r5
        have X5 := Lib.hid (HX.out.far k5 (by intro e; injection e with e; omega))
        have Z5 := Lib.hid (HZ.out.far k5 (by intro e; injection e with e; omega))
        have O5 := Lib.hid (HO.out.far k5 (fun k hk e => by injection e with e; have := (HO.out.lt k hk).1; omega))
        have G5 : Hid (w.grownBy w5 (some g)) := HG.out.trans k5
        clear hx1 r5 k5 hbo d0
        by_cases hx : 0 < x
        · have LA5 := Lib.hid (O5.out.atg HM.out j hjK)
          rw [HKL.out] at LA5
          have hb5 := X5.out.cell
          obtain ⟨d0, d1, d2, d3, d4, d5⟩ := LA5.out
          clear d0 d1 d3 d4 d5
          go_wp2_with fail
          have HSC := Lib.hid (sectionAt_any (some ⟨gv, 0, none⟩) c0 K j w5.drew (by rw [HM.out]; omega) hjK ((HM.out ▸ O5.out : OwnL w5 (w.heap.size + 1) (.slice (some ⟨gv, 0, none⟩) K.length c0) K).at.keep (Grows.refl w5).drew))
          rw [HM.out] at HSC
          have HNS := Lib.hid (nowAt_short SS.out (j + 1) (by omega))
          obtain ⟨s, hs⟩ : ∃ s, nowAt K (j + 1) = s := ⟨_, rfl⟩
          rw [hs] at HNS HSC
          have HE1 := Lib.hid hb5
          have HE2 := Lib.hid d2
          have HNE : Hid (w.heap.size ≠ w1.heap.size ∧ w.heap.size ≠ gv) := by unfold Hid; omega
          clear hs
          go_region_held3 (fun w' => w'.cell? ⟨w1.heap.size, 0, none⟩ = some (.slice (some ⟨gv, 0, none⟩) m c0) ∧ w'.cell? ⟨gv, j * 6 + 2, none⟩ = some (.string l.na)) (first | exact ⟨hb5, d2⟩ | exact ⟨x1, x2⟩ | exact ⟨y1, y2⟩) (first | (go_at_call 51; refine (HSC.out).mono ?_; rintro e w6 ⟨rfl, g6'⟩; have g6 : Hid (Grows w5 w6) := (Grows.refl w5).drew.trans g6'; clear g6'; have Z6 := Lib.hid (Z5.out.keep g6.out); have z0 := Z6.out.cell; have zf := Z6.out.free; have x1 := (X5.out.keep g6.out).cell; have x2 : w6.cell? ⟨gv, j * 6 + 2, none⟩ = some (.string l.na) := (g6.out.cell (p := ⟨gv, j * 6 + 2, none⟩) (World.block_lt_of_cell? w5 _ HE2.out)).trans HE2.out; have y1 := (World.cell?_setCell_other w6 ⟨w.heap.size, 0, none⟩ ⟨w1.heap.size, 0, none⟩ (.slice (some ⟨gv, 0, none⟩) m c0) (by intro e; have e1 := congrArg Addr.block e; have e2 := HNE.out; simp only at e1; omega)).trans x1; have y2 := (World.cell?_setCell_other w6 ⟨w.heap.size, 0, none⟩ ⟨gv, j * 6 + 2, none⟩ (.slice (some ⟨gv, 0, none⟩) m c0) (by intro e; have e1 := congrArg Addr.block e; have e2 := HNE.out; simp only at e1; omega)).trans x2))
          clear z0 zf x1 x2 hb5 d2 HSC
          have HZf : Hid (Box (w6.setCell ⟨w.heap.size, 0, none⟩ (.slice (some ⟨gv, 0, none⟩) m c0)) w.heap.size (.slice (some ⟨gv, 0, none⟩) m c0) 25) := Z6.out.set_ _
          have O6 := Lib.hid (O5.out.keep g6.out)
          have HN9 : Hid ((Value.slice (some ⟨gv, 0, none⟩) m c0).ownBlock ≠ some w.heap.size) := fun e => by have := (O6.out.lt _ e).1; omega
          have HOF := Lib.hid ((O6.out.setFar (i := 0) HN9.out (.slice (some ⟨gv, 0, none⟩) m c0)).less (show w.heap.size ≤ w.heap.size + 1 by omega))
          have HRF : Hid (RdOn g A n c p 1200 w (w6.setCell ⟨w.heap.size, 0, none⟩ (.slice (some ⟨gv, 0, none⟩) m c0))) := ⟨q + 1, by omega, by omega, H0.out.setNew (R5.out.keep g6.out) (Nat.le_refl _) _ _, gb_new (gb_grows G5.out g6.out) (Nat.le_refl _) _ _⟩
          clear y1 y2
          obtain ⟨wf, hwf⟩ : ∃ wf, w6.setCell ⟨w.heap.size, 0, none⟩ (.slice (some ⟨gv, 0, none⟩) m c0) = wf := ⟨_, rfl⟩
          rw [hwf] at HZf HOF HRF ⊢
          clear hwf
          have hz := HZf.out.cell
          go_wp2
          refine bodyPost_ret (v := .tuple #[.agg #[.slice (some ⟨gv, 0, none⟩) m c0], .string s, .string l.na]) (by simp [results, Try.results28, go_sem, hz]) rfl ?_
          exact ⟨_, K, s, l.na, rfl, ⟨SS.out, by rw [HM.out]; exact hm1⟩, HOF.out, ⟨HNS.out, HNA.out⟩, HRF.out⟩
        · have hx2 : ¬ 0 < x := hx
          clear hx
          go_wp2
          go_roundw
          case rel => exact ⟨j + 1, q + 1, by go_num, by omega, by omega, by omega, O5.out, X5.out, Z5.out, R5.out, G5.out⟩
          case measure => simp [intOf]; omega
      · have h3b : (l.k == 3) = false := by rw [beq_eq_false_iff_ne]; exact h3
        clear h3 d1 d2 d3 d4 d5
        go_wp2
        go_roundw
        case rel => exact ⟨j + 1, q, by go_num, by omega, by omega, by omega, HO.out, HX.out, HZ.out, HRd.out, HG.out⟩
        case measure => simp [intOf]; omega
    · have hz0 := HZ.out.cell
      go_wp2_with fail
      refine wp_region_M 5 (CellsAre [(⟨w1.heap.size, 0, none⟩, .slice A0 m c0)]) (by kernel_rfl) (by kernel_rfl) ⟨hbo, trivial⟩ (fun hB hS => ?_)
      refine wpAnyM_take (i := 0) (v := ?vg0) hB rfl (by kernel_rfl) (fun _ _ _ h => h) (by kernel_rfl) ?yg0 hS ?ng0
      case yg0 => (intro w9 hSw; obtain ⟨s1, _⟩ := hSw; go_simp; try with_reducible rfl)
      refine wpAnyM_take (i := 1) (v := ?vg1) hB rfl (by kernel_rfl) (fun _ _ _ h => h) (by kernel_rfl) ?yg1 hS ?ng1
      case yg1 => (intro w9 hSw; obtain ⟨s1, _⟩ := hSw; go_simp; try with_reducible rfl)
      refine wpAnyM_take (i := 3) (v := ?vg3) hB rfl (by kernel_rfl) (fun _ _ _ h => h) (by kernel_rfl) ?yg3 hS ?ng3
      case yg3 => (intro w9 hSw; obtain ⟨s1, _⟩ := hSw; go_simp; try with_reducible rfl)
      refine wpAnyM_one (i := 2) rfl (by kernel_rfl) rfl ?_
      clear hS hbo hz0
      go_wp2_with fail
      refine (aSection_any g A n c q _ (by omega) hn (HRd.out.keep (Grows.refl wr).drew)).mono ?_
      rintro e w5 ⟨s, rfl, hsz, q5, a5, b5, r5, k5'⟩
      have k5 : Hid (wr.grownBy w5 (some g)) := (gb_of (Grows.refl wr).drew).trans k5'
      have HSZ := Lib.hid hsz
      have R5 := Lib.hid r5
      have X5 := Lib.hid (HX.out.far k5.out (by intro e; injection e with e; omega))
      have Z5 := Lib.hid (HZ.out.far k5.out (by intro e; injection e with e; omega))
      have O5 := Lib.hid (HO.out.far k5.out (fun k hk e => by injection e with e; have := (HO.out.lt k hk).1; omega))
      have G5 : Hid (w.grownBy w5 (some g)) := HG.out.trans k5.out
      clear hsz r5 k5'
      go_wp2_with fail
      refine ⟨⟨X5.out.cell, trivial⟩, ?_⟩
      refine wpAnyM_one (i := 4) rfl (by kernel_rfl) rfl ?_
      go_wp2_with fail
      refine (aKey_any g A n c q5 _ (by omega) hn R5.out).mono ?_
      rintro e w6 ⟨key, rfl, hkz, q6, a6, b6, r6, k6'⟩
      have k6 := Lib.hid k6'
      have HKZ := Lib.hid hkz
      have R6 := Lib.hid r6
      have X6 := Lib.hid (X5.out.far k6.out (by intro e; injection e with e; omega))
      have Z6 := Lib.hid (Z5.out.far k6.out (by intro e; injection e with e; omega))
      have O6 := Lib.hid (O5.out.far k6.out (fun k hk e => by injection e with e; have := (O5.out.lt k hk).1; omega))
      have G6 : Hid (w.grownBy w6 (some g)) := G5.out.trans k6.out
      clear hkz r6 k6'
      go_wp2_with fail
      refine ⟨⟨X6.out.cell, trivial⟩, ?_⟩
      refine wpAnyM_tail (by kernel_rfl) ?_
      clear hB
      have z0 := Z6.out.cell
      have zf := Z6.out.free
      have HZf : Hid (Box (w6.setCell ⟨w.heap.size, 0, none⟩ (.slice A0 m c0)) w.heap.size (.slice A0 m c0) 25) := Z6.out.set_ _
      have HN9 : Hid ((Value.slice A0 m c0).ownBlock ≠ some w.heap.size) := fun e => by have := (O6.out.lt _ e).1; omega
      have HOF := Lib.hid ((O6.out.setFar (i := 0) HN9.out (.slice A0 m c0)).less (show w.heap.size ≤ w.heap.size + 1 by omega))
      have HRF : Hid (RdOn g A n c p 1200 w (w6.setCell ⟨w.heap.size, 0, none⟩ (.slice A0 m c0))) := ⟨q6, by omega, by omega, H0.out.setNew R6.out (Nat.le_refl _) _ _, gb_new G6.out (Nat.le_refl _) _ _⟩
      go_wp2
      obtain ⟨wf, hwf⟩ : ∃ wf, w6.setCell ⟨w.heap.size, 0, none⟩ (.slice A0 m c0) = wf := ⟨_, rfl⟩
      rw [hwf] at HZf HOF HRF ⊢
      clear hwf z0 zf
      have hz := HZf.out.cell
      refine bodyPost_ret (v := .tuple #[.agg #[.slice A0 m c0], .string s, .string key]) (by simp [results, Try.results28, go_sem, hz]) rfl ?_
      exact ⟨_, K, s, key, rfl, ⟨SS.out, by rw [HM.out]; exact hm1⟩, HOF.out, ⟨HSZ.out, HKZ.out⟩, HRF.out⟩
end Go.Proofs.Ytdedidcjbocicaa
