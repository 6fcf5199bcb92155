/-
  CountChanges of the specification. Conditions: parts of at most 1048576 bytes.
-/
import Derived.Test.YtcecjdjfbgmogaaDoorCnt
import Derived.Test.YtcecjdjfbgmogaaDoorLawVL
namespace Go.Proofs.YtcecjdjfbgmogaaDoor
open Go.RowKit

theorem CellsAre.set_farC {w : World} {b j : Nat} {u : Value} : ∀ {l : List (Addr × Value)}, CellsAre l w → (∀ x ∈ l, x.1.block ≠ b) → CellsAre l (w.setCell ⟨b, j, none⟩ u)
  | [], _, _ => trivial
  | (p, v) :: l, h, hne => by
    refine ⟨(World.cell?_setCell_other w ⟨b, j, none⟩ p u (fun e => ?_)).trans h.1, CellsAre.set_farC h.2 (fun y hy => hne y (List.mem_cons_of_mem _ hy))⟩
    have h1 := hne (p, v) List.mem_cons_self
    have e1 := congrArg Addr.block e
    simp only at e1 h1
    omega
theorem BoxE.st4eC {w : World} {b : Nat} {e : Ent} {T : TypeId} (h : BoxE w b e T) (z : Ent) : BoxE ((((w.setCell ⟨b, 0, none⟩ (.string z.s)).setCell ⟨b, 1, none⟩ (.string z.k)).setCell ⟨b, 2, none⟩ (.int .i64 z.op)).setCell ⟨b, 3, none⟩ (.string z.v)) b z T := by
  unfold BoxE
  unfold BoxE at h
  simp [World.setCell, Array.getElem?_modify, h]


set_option maxRecDepth 100000 in
set_option maxHeartbeats 8000000 in
theorem specCnt_any (A : Option Addr) (c : Nat) (us : List Ent) (B : Option Addr) (d : Nat) (bs : List Ent) (w : World) (hc0 : us.length ≤ c) (hd0 : bs.length ≤ d) (hf : EFit us) (hA : EntsAt w A us) (hg : EFit bs) (hB : EntsAt w B bs) :
    Calls Tryd.prog 33 #[.agg #[.slice A us.length c], .agg #[.slice B bs.length d]] w (CntRet us bs w) := by
  have HFA := Lib.hid (fun w1 (g : Grows w w1) => specFlat0_any A c us w1 hc0 hf (hA.keep g))
  have HFB := Lib.hid (fun w1 (g : Grows w w1) => specFlat0_any B d bs w1 hd0 hg (hB.keep g))
  have XA : Hid (Box ((w.alloc (.cells #[.slice A us.length c] 25)).alloc (.cells #[.slice B bs.length d] 25)) w.heap.size (.slice A us.length c) 25) := row_grow (heap_alloc_new w _) ((Grows.refl _).alloc _)
  have XB : Hid (Box ((w.alloc (.cells #[.slice A us.length c] 25)).alloc (.cells #[.slice B bs.length d] 25)) (w.heap.size + 1) (.slice B bs.length d) 25) := alloc_new2 w _ _
  have G0 : Hid (Grows w ((w.alloc (.cells #[.slice A us.length c] 25)).alloc (.cells #[.slice B bs.length d] 25))) := ((Grows.refl w).alloc _).alloc _
  by_cases ha : vflat us = true
  · by_cases hb : vflat bs = true
    · have hva := vflat_vlayer ha
      have hvb := vflat_vlayer hb
      have HR : Hid (∀ j, chgN us bs j = (cntE us bs (chgL us bs) j : Int)) := fun j => by unfold chgN chgB; rw [ha, hb]; rfl
      have HSA := Lib.hid (fun (s k : ByteArray) w1 (g : Grows w w1) => stateOf_any A c us s k w1 (by have := hf.1; omega) hc0 (hA.keep g))
      have HSB := Lib.hid (fun (s k : ByteArray) w1 (g : Grows w w1) => stateOf_any B d bs s k w1 (by have := hg.1; omega) hd0 (hB.keep g))
      have h20 : ∀ l ∈ [us, bs], l.length ≤ 20 := fun l hl => by
        rcases List.mem_cons.1 hl with h | h
        · rw [h]; exact vlayer_20 hva
        · rw [List.mem_singleton] at h; rw [h]; exact vlayer_20 hvb
      have HPL := Lib.hid (fun (g : Nat) w1 (gr : Grows w w1) (h0 : w1.cell? ⟨g, 0, none⟩ = some (.slice A us.length c)) (h1 : w1.cell? ⟨g, 1, none⟩ = some (.slice B bs.length d)) (hgl : g < w1.heap.size) => specPlaces_any (some ⟨g, 0, none⟩) 2 [us, bs] w1 (by simp) h20 (stack2C_at hc0 hd0 (hA.keep gr) (hB.keep gr) h0 h1 hgl))
      have hal : firstsE [us, bs].flatten = chgL us bs := by unfold chgL; simp
      have hPl : (chgL us bs).length ≤ 40 := by
        have h1 := firstsE_len (us ++ bs)
        rw [List.length_append] at h1
        have := vlayer_20 hva
        have := vlayer_20 hvb
        exact Nat.le_trans h1 (by omega)
      rw [hal] at HPL
      rw [ha] at HFA
      rw [hb] at HFB
      have HCS := Lib.hid (fun (P : List Ent) q (h : q < P.length) j => cntE_succ us bs h j)
      have HCL := Lib.hid (fun (P : List Ent) q j => cntE_le us bs P q j)
      unfold StRet at HSA HSB
      clear ha hb hva hvb hal hf hg hA hB hc0 hd0 h20
      obtain ⟨P, hP⟩ : ∃ P, chgL us bs = P := ⟨_, rfl⟩
      rw [hP] at HR hPl HPL
      clear hP
      obtain ⟨m, hmm⟩ : ∃ m, us.length = m := ⟨_, rfl⟩
      obtain ⟨n, hnn⟩ : ∃ n, bs.length = n := ⟨_, rfl⟩
      rw [hmm] at HFA HSA HPL XA XB G0 ⊢
      rw [hnn] at HFB HSB HPL XA XB G0 ⊢
      clear hmm hnn
      go_enter Tryd.func33, Tryd.ntmps33
      go_upto_region 1 with (fail)
      obtain ⟨w0, hw0⟩ : ∃ w0, (w.alloc (.cells #[.slice A m c] 25)).alloc (.cells #[.slice B n d] 25) = w0 := ⟨_, rfl⟩
      rw [hw0] at XA XB G0 ⊢
      clear hw0
      have cA := XA.out.cell
      have cB := XB.out.cell
      go_wp2_with fail
      refine (HFA.out _ G0.out).mono ?_
      rintro e w1 ⟨rfl, g1⟩
      have XA1 := Lib.hid (XA.out.keep g1)
      have XB1 := Lib.hid (XB.out.keep g1)
      have G1 : Hid (Grows w w1) := G0.out.trans g1
      clear g1 cA cB XA XB G0 HFA
      have cA := XA1.out.cell
      have cB := XB1.out.cell
      go_wp2_with fail
      refine (HFB.out _ G1.out).mono ?_
      rintro e w2 ⟨rfl, g2⟩
      have XA4 := Lib.hid (XA1.out.keep g2)
      have XB4 := Lib.hid (XB1.out.keep g2)
      have G4 : Hid (Grows w w2) := G1.out.trans g2
      clear g2 cA cB XA1 XB1 G1 HFB
      have cA := XA4.out.cell
      have cB := XB4.out.cell
      go_wp2_with fail
      refine (HPL.out w2.heap.size _ (G4.out.alloc _) (by simp) (by simp) (by simp)).mono ?_
      rintro e w5 ⟨v, rfl, hv, g5⟩
      have XA5 := Lib.hid ((XA4.out.keep ((Grows.refl w2).alloc _)).keep g5)
      have XB5 := Lib.hid ((XB4.out.keep ((Grows.refl w2).alloc _)).keep g5)
      have G5 : Hid (Grows w w5) := (G4.out.alloc _).trans g5
      obtain ⟨AP, cP, rfl, hPA⟩ := hv.form
      have HPA := Lib.hid hPA
      clear g5 hv hPA cA cB XA4 XB4 G4 HPL
      obtain ⟨np, hnp⟩ : ∃ np, P.length = np := ⟨_, rfl⟩
      have HNP := Lib.hid hnp
      rw [hnp] at hPl ⊢
      clear hnp
      go_wp2_with fail
      go_loopw [7, 8, 9, 11] (fun a b t i wr => ∃ q : Nat, q ≤ np ∧ i = .int .i64 q ∧ a = .int .i64 (cntE us bs (P.take q) 0) ∧ b = .int .i64 (cntE us bs (P.take q) 1) ∧ t = .int .i64 (cntE us bs (P.take q) 2) ∧ Hid (Grows w5 wr)) (fun _ _ _ i _ => np - (intOf i).toNat)
      case atStart => exact ⟨0, Nat.zero_le _, rfl, rfl, rfl, rfl, Grows.refl _⟩
      case round =>
        obtain ⟨q, hq, rfl, rfl, rfl, rfl, HG⟩ := hrel
        have k0 := HCL.out P q 0
        have k1 := HCL.out P q 1
        have k2 := HCL.out P q 2
        by_cases hlt : q < np
        · have hq2 : q < P.length := by rw [HNP.out]; exact hlt
          obtain ⟨gp, rfl, hgp, hcp⟩ := HPA.out (by rw [HNP.out]; omega)
          obtain ⟨d0, d1⟩ := hcp q hq2
          have c0 := (HG.out.cell (p := ⟨gp, q * 2, none⟩) hgp).trans d0
          have c1 := (HG.out.cell (p := ⟨gp, q * 2 + 1, none⟩) hgp).trans d1
          have cA := (XA5.out.keep HG.out).cell
          have cB := (XB5.out.keep HG.out).cell
          have e0 := HCS.out P q hq2 0
          have e1 := HCS.out P q hq2 1
          have e2 := HCS.out P q hq2 2
          obtain ⟨⟨ps, pk, po, pv⟩, hp⟩ : ∃ e, P[q] = e := ⟨_, rfl⟩
          rw [hp] at c0 c1 e0 e1 e2
          simp only at c0 c1
          have E0 := Lib.hid e0
          have E1 := Lib.hid e1
          have E2 := Lib.hid e2
          have HC0 := Lib.hid c0
          have HC1 := Lib.hid c1
          have HCB := Lib.hid cB
          have SA := Lib.hid (HSA.out ps pk)
          have SB := Lib.hid (HSB.out ps pk)
          have CN := Lib.hid (@cat_none us bs ⟨ps, pk, po, pv⟩)
          have CL := Lib.hid (fun (x : Ent) h h2 => @cat_less us bs ⟨ps, pk, po, pv⟩ x h h2)
          have CB := Lib.hid (fun (x y : Ent) h h2 => @cat_both us bs ⟨ps, pk, po, pv⟩ x y h h2)
          simp only at CN CL CB
          clear hcp d0 d1 e0 e1 e2 hp
          obtain ⟨n0, hn0⟩ : ∃ n0, cntE us bs (P.take q) 0 = n0 := ⟨_, rfl⟩
          obtain ⟨n1, hn1⟩ : ∃ n1, cntE us bs (P.take q) 1 = n1 := ⟨_, rfl⟩
          obtain ⟨n2, hn2⟩ : ∃ n2, cntE us bs (P.take q) 2 = n2 := ⟨_, rfl⟩
          rw [hn0] at E0 k0 ⊢
          rw [hn1] at E1 k1 ⊢
          rw [hn2] at E2 k2 ⊢
          clear hn0 hn1 hn2
          obtain ⟨fx, hx⟩ : ∃ fx, us.find? (fun x => x.of ps pk) = fx := ⟨_, rfl⟩
          obtain ⟨fy, hy⟩ : ∃ fy, bs.find? (fun x => x.of ps pk) = fy := ⟨_, rfl⟩
          rw [hx] at SA
          rw [hy] at SB
          have HX := Lib.hid hx
          have HY := Lib.hid hy
          obtain ⟨zx, hzx⟩ : ∃ zx, fx.getD Ent.zero = zx := ⟨_, rfl⟩
          obtain ⟨zy, hzy⟩ : ∃ zy, fy.getD Ent.zero = zy := ⟨_, rfl⟩
          obtain ⟨ix, hix⟩ : ∃ ix, fx.isSome = ix := ⟨_, rfl⟩
          obtain ⟨iy, hiy⟩ : ∃ iy, fy.isSome = iy := ⟨_, rfl⟩
          rw [hzx, hix] at SA
          rw [hzy, hiy] at SB
          have HZX := Lib.hid hzx
          have HZY := Lib.hid hzy
          have HIX := Lib.hid hix
          have HIY := Lib.hid hiy
          clear hx hy hzx hzy hix hiy
          obtain ⟨zxs, zxk, zxo, zxv⟩ := zx
          obtain ⟨zys, zyk, zyo, zyv⟩ := zy
          unfold Ent.agg at SA SB
          simp only at SA SB
          go_upto_region 10 with (fail)
          go_cut [12, 13] (fun sW sB wx => ∃ bX : Nat, sW = .pointer (some ⟨bX, 0, none⟩) ∧ sB = .bool ix ∧ Hid (BoxE wx bX ⟨zxs, zxk, zxo, zxv⟩ 66) ∧ Hid (Grows wr wx))
          case first =>
            refine wp_region_M 11 (CellsAre [(⟨w.heap.size, 0, none⟩, (.slice A m c)), (⟨gp, q * 2, none⟩, .string ps), (⟨gp, q * 2 + 1, none⟩, .string pk)]) (by kernel_rfl) (by kernel_rfl) ⟨cA, HC0.out, HC1.out, trivial⟩ (fun hB hS => ?_)
            refine wpAnyM_take (i := 0) (v := ?vcc0) hB rfl (by kernel_rfl) (fun _ _ _ h => h) (by first | kernel_rfl | simp [Region.wanted, yielded, Act.put]) ?ycc0 hS ?ncc0
            case ycc0 => (intro w9 hSw; obtain ⟨s1, s2, s3, _⟩ := hSw; go_simp; first | done | with_reducible rfl | rfl)
            refine wpAnyM_take (i := 1) (v := ?vcc1) hB rfl (by kernel_rfl) (fun _ _ _ h => h) (by first | kernel_rfl | simp [Region.wanted, yielded, Act.put]) ?ycc1 hS ?ncc1
            case ycc1 => (intro w9 hSw; obtain ⟨s1, s2, s3, _⟩ := hSw; go_simp; first | done | with_reducible rfl | rfl)
            refine wpAnyM_take (i := 2) (v := ?vcc2) hB rfl (by kernel_rfl) (fun _ _ _ h => h) (by first | kernel_rfl | simp [Region.wanted, yielded, Act.put]) ?ycc2 hS ?ncc2
            case ycc2 => (intro w9 hSw; obtain ⟨s1, s2, s3, _⟩ := hSw; go_simp; first | done | with_reducible rfl | rfl)
            refine wpAnyM_take (i := 3) (v := ?vcc3) hB rfl (by kernel_rfl) (fun _ _ _ h => h) (by first | kernel_rfl | simp [Region.wanted, yielded, Act.put]) ?ycc3 hS ?ncc3
            case ycc3 => (intro w9 hSw; obtain ⟨s1, s2, s3, _⟩ := hSw; go_simp; first | done | with_reducible rfl | rfl)
            refine wpAnyM_take (i := 4) (v := ?vcc4) hB rfl (by kernel_rfl) (fun _ _ _ h => h) (by first | kernel_rfl | simp [Region.wanted, yielded, Act.put]) ?ycc4 hS ?ncc4
            case ycc4 => (intro w9 hSw; obtain ⟨s1, s2, s3, _⟩ := hSw; go_simp; first | done | with_reducible rfl | rfl)
            have HSx := Lib.hid hS
            clear hS
            refine wpAnyM_two (i := 5) (j := 9) rfl rfl (by kernel_rfl) rfl rfl ?_ ?_
            · go_wp2_with fail
              refine (SA.out _ ((G5.out.trans HG.out).drew)).mono ?_
              rintro e wy ⟨rfl, gy⟩
              have JY : Hid (Grows wr wy) := (Grows.refl wr).drew.trans gy
              have HSy := Lib.hid (CellsAre.keep HSx.out gy)
              clear gy HSx
              go_wp2_with fail
              refine ⟨HSy.out, ?_⟩
              have hS := HSy.out
              refine wpAnyM_take (i := 6) (v := ?vccq6) hB rfl (by kernel_rfl) (fun _ _ _ h => h) (by first | kernel_rfl | simp [Region.wanted, yielded, Act.put]) ?yccq6 hS ?nccq6
              case yccq6 => (intro w9 hSw; obtain ⟨s1, s2, s3, _⟩ := hSw; go_simp; first | done | with_reducible rfl | rfl)
              refine wpAnyM_take (i := 7) (v := ?vccq7) hB rfl (by kernel_rfl) (fun _ _ _ h => h) (by first | kernel_rfl | simp [Region.wanted, yielded, Act.put]) ?yccq7 hS ?nccq7
              case yccq7 => (intro w9 hSw; obtain ⟨s1, s2, s3, _⟩ := hSw; go_simp; first | done | with_reducible rfl | rfl)
              refine wpAnyM_take (i := 8) (v := ?vccq8) hB rfl (by kernel_rfl) (fun _ _ _ h => h) (by first | kernel_rfl | simp [Region.wanted, yielded, Act.put]) ?yccq8 hS ?nccq8
              case yccq8 => (intro w9 hSw; obtain ⟨s1, s2, s3, _⟩ := hSw; go_simp; first | done | with_reducible rfl | rfl)
              clear hS
              refine wpAnyM_one (i := 9) rfl (by kernel_rfl) rfl ?_
              go_wp2_with fail
              have HSw := Lib.hid (CellsAre.keep HSy.out ((Grows.refl wy).alloc (.cells #[.string zxs, .string zxk, .int .i64 zxo, .string zxv] 66)))
              refine ⟨CellsAre.keep HSy.out ((Grows.refl _).alloc _), ?_⟩
              refine wpAnyM_one (i := 10) rfl (by kernel_rfl) rfl ?_
              go_wp2_with fail
              refine ⟨HSw.out, ?_⟩
              refine wpAnyM_tail (by kernel_rfl) ?_
              clear hB
              go_wp2_with fail
              go_meet
              exact ⟨_, rfl, rfl, BoxE.new wy ⟨zxs, zxk, zxo, zxv⟩ _, JY.out.alloc _⟩
            · have HNE : Hid (∀ x ∈ ([(⟨w.heap.size, 0, none⟩, (.slice A m c)), (⟨gp, q * 2, none⟩, .string ps), (⟨gp, q * 2 + 1, none⟩, .string pk)] : List (Addr × Value)), x.1.block ≠ wr.heap.size) := fun x hx => by
                have z1 : w.heap.size < wr.heap.size := World.block_lt_of_cell? wr.drew _ HSx.out.1
                have z2 : gp < wr.heap.size := World.block_lt_of_cell? wr.drew _ HSx.out.2.1
                have z3 : gp < wr.heap.size := World.block_lt_of_cell? wr.drew _ HSx.out.2.2.1
                simp only [List.mem_cons, List.not_mem_nil, or_false] at hx
                rcases hx with rfl | rfl | rfl <;> (simp only; omega)
              go_wp2_with fail
              have GZ : Hid (Grows wr (wr.alloc (.cells #[.string ⟨#[]⟩, .string ⟨#[]⟩, .int .i64 0, .string ⟨#[]⟩] 66)).drew) := ((Grows.refl wr).alloc _).drew
              have Ez : Hid (BoxE (wr.alloc (.cells #[.string ⟨#[]⟩, .string ⟨#[]⟩, .int .i64 0, .string ⟨#[]⟩] 66)).drew wr.heap.size Ent.zero 66) := (BoxE.new wr Ent.zero _).keep (Grows.refl _).drew
              have hbz : wr.heap.size < (wr.alloc (.cells #[.string ⟨#[]⟩, .string ⟨#[]⟩, .int .i64 0, .string ⟨#[]⟩] 66)).drew.heap.size := Ez.out.lt
              have HSz : Hid (CellsAre [(⟨w.heap.size, 0, none⟩, (.slice A m c)), (⟨gp, q * 2, none⟩, .string ps), (⟨gp, q * 2 + 1, none⟩, .string pk)] (wr.alloc (.cells #[.string ⟨#[]⟩, .string ⟨#[]⟩, .int .i64 0, .string ⟨#[]⟩] 66)).drew) := CellsAre.keep (show CellsAre _ wr from HSx.out) GZ.out
              obtain ⟨wz, hwz⟩ : ∃ wz, (wr.alloc (.cells #[.string ⟨#[]⟩, .string ⟨#[]⟩, .int .i64 0, .string ⟨#[]⟩] 66)).drew = wz := ⟨_, rfl⟩
              rw [hwz] at GZ Ez HSz hbz ⊢
              clear hwz HSx
              refine ⟨HSz.out, ?_⟩
              refine wpAnyM_one (i := 5) rfl (by kernel_rfl) rfl ?_
              go_wp2_with fail
              refine (SA.out _ ((G5.out.trans HG.out).trans GZ.out)).mono ?_
              rintro e wy ⟨rfl, gy⟩
              have JY : Hid (Grows wr wy) := GZ.out.trans gy
              have HSy := Lib.hid (CellsAre.keep HSz.out gy)
              have Ey := Lib.hid (Ez.out.keep gy)
              clear gy HSz Ez GZ
              go_wp2_with fail
              refine ⟨HSy.out, ?_⟩
              have hS := HSy.out
              refine wpAnyM_take (i := 6) (v := ?vccr6) hB rfl (by kernel_rfl) (fun _ _ _ h => h) (by first | kernel_rfl | simp [Region.wanted, yielded, Act.put]) ?yccr6 hS ?nccr6
              case yccr6 => (intro w9 hSw; obtain ⟨s1, s2, s3, _⟩ := hSw; go_simp; first | done | with_reducible rfl | rfl)
              refine wpAnyM_take (i := 7) (v := ?vccr7) hB rfl (by kernel_rfl) (fun _ _ _ h => h) (by first | kernel_rfl | simp [Region.wanted, yielded, Act.put]) ?yccr7 hS ?nccr7
              case yccr7 => (intro w9 hSw; obtain ⟨s1, s2, s3, _⟩ := hSw; go_simp; first | done | with_reducible rfl | rfl)
              refine wpAnyM_take (i := 8) (v := ?vccr8) hB rfl (by kernel_rfl) (fun _ _ _ h => h) (by first | kernel_rfl | simp [Region.wanted, yielded, Act.put]) ?yccr8 hS ?nccr8
              case yccr8 => (intro w9 hSw; obtain ⟨s1, s2, s3, _⟩ := hSw; go_simp; first | done | with_reducible rfl | rfl)
              clear hS
              have v0 := Ey.out.at0
              have v1 := Ey.out.at1
              have v2 := Ey.out.at2
              have v3 := Ey.out.at3
              have vf0 := Ey.out.free 0
              have vf1 := Ey.out.free 1
              have vf2 := Ey.out.free 2
              have vf3 := Ey.out.free 3
              refine wpAnyM_one (i := 10) rfl (by kernel_rfl) rfl ?_
              go_wp2_with fail
              refine ⟨CellsAre.set_farC (CellsAre.set_farC (CellsAre.set_farC (CellsAre.set_farC HSy.out HNE.out) HNE.out) HNE.out) HNE.out, ?_⟩
              refine wpAnyM_tail (by kernel_rfl) ?_
              clear hB
              go_wp2_with fail
              go_meet
              exact ⟨_, rfl, rfl, BoxE.st4eC Ey.out ⟨zxs, zxk, zxo, zxv⟩, (((JY.out.setCell (Nat.le_refl _) _).setCell (Nat.le_refl _) _).setCell (Nat.le_refl _) _).setCell (Nat.le_refl _) _⟩
          case rest =>
            obtain ⟨w6, hwc⟩ : ∃ x, x = wc := ⟨_, rfl⟩
            subst hwc
            obtain ⟨bX, rfl, rfl, EX6, G6⟩ := hcut
            have GW6 : Hid (Grows w5 w6) := HG.out.trans G6.out
            have hl0 := World.block_lt_of_cell? wr _ HC0.out
            have hl1 := World.block_lt_of_cell? wr _ HC1.out
            have hlB := World.block_lt_of_cell? wr _ HCB.out
            have q0 := (G6.out.cell (p := ⟨gp, q * 2, none⟩) hl0).trans HC0.out
            have q1 := (G6.out.cell (p := ⟨gp, q * 2 + 1, none⟩) hl1).trans HC1.out
            have qB := (G6.out.cell (p := ⟨w.heap.size + 1, 0, none⟩) hlB).trans HCB.out
            clear HC0 HC1 HCB hl0 hl1 hlB c0 c1 cA cB
            have HC0 := Lib.hid q0
            have HC1 := Lib.hid q1
            have HCB := Lib.hid qB
            clear q0 q1 qB
            go_upto_region 11 with (fail)
            go_cut [14, 15] (fun sW sB wx => ∃ bX : Nat, sW = .pointer (some ⟨bX, 0, none⟩) ∧ sB = .bool iy ∧ Hid (BoxE wx bX ⟨zys, zyk, zyo, zyv⟩ 66) ∧ Hid (Grows w6 wx))
            case first =>
              refine wp_region_M 11 (CellsAre [(⟨w.heap.size + 1, 0, none⟩, (.slice B n d)), (⟨gp, q * 2, none⟩, .string ps), (⟨gp, q * 2 + 1, none⟩, .string pk)]) (by kernel_rfl) (by kernel_rfl) ⟨HCB.out, HC0.out, HC1.out, trivial⟩ (fun hB hS => ?_)
              refine wpAnyM_take (i := 0) (v := ?vcb0) hB rfl (by kernel_rfl) (fun _ _ _ h => h) (by first | kernel_rfl | simp [Region.wanted, yielded, Act.put]) ?ycb0 hS ?ncb0
              case ycb0 => (intro w9 hSw; obtain ⟨s1, s2, s3, _⟩ := hSw; go_simp; first | done | with_reducible rfl | rfl)
              refine wpAnyM_take (i := 1) (v := ?vcb1) hB rfl (by kernel_rfl) (fun _ _ _ h => h) (by first | kernel_rfl | simp [Region.wanted, yielded, Act.put]) ?ycb1 hS ?ncb1
              case ycb1 => (intro w9 hSw; obtain ⟨s1, s2, s3, _⟩ := hSw; go_simp; first | done | with_reducible rfl | rfl)
              refine wpAnyM_take (i := 2) (v := ?vcb2) hB rfl (by kernel_rfl) (fun _ _ _ h => h) (by first | kernel_rfl | simp [Region.wanted, yielded, Act.put]) ?ycb2 hS ?ncb2
              case ycb2 => (intro w9 hSw; obtain ⟨s1, s2, s3, _⟩ := hSw; go_simp; first | done | with_reducible rfl | rfl)
              refine wpAnyM_take (i := 3) (v := ?vcb3) hB rfl (by kernel_rfl) (fun _ _ _ h => h) (by first | kernel_rfl | simp [Region.wanted, yielded, Act.put]) ?ycb3 hS ?ncb3
              case ycb3 => (intro w9 hSw; obtain ⟨s1, s2, s3, _⟩ := hSw; go_simp; first | done | with_reducible rfl | rfl)
              refine wpAnyM_take (i := 4) (v := ?vcb4) hB rfl (by kernel_rfl) (fun _ _ _ h => h) (by first | kernel_rfl | simp [Region.wanted, yielded, Act.put]) ?ycb4 hS ?ncb4
              case ycb4 => (intro w9 hSw; obtain ⟨s1, s2, s3, _⟩ := hSw; go_simp; first | done | with_reducible rfl | rfl)
              have HSx := Lib.hid hS
              clear hS
              refine wpAnyM_two (i := 5) (j := 9) rfl rfl (by kernel_rfl) rfl rfl ?_ ?_
              · go_wp2_with fail
                refine (SB.out _ ((G5.out.trans GW6.out).drew)).mono ?_
                rintro e wy ⟨rfl, gy⟩
                have JY : Hid (Grows w6 wy) := (Grows.refl w6).drew.trans gy
                have HSy := Lib.hid (CellsAre.keep HSx.out gy)
                clear gy HSx
                go_wp2_with fail
                refine ⟨HSy.out, ?_⟩
                have hS := HSy.out
                refine wpAnyM_take (i := 6) (v := ?vcbq6) hB rfl (by kernel_rfl) (fun _ _ _ h => h) (by first | kernel_rfl | simp [Region.wanted, yielded, Act.put]) ?ycbq6 hS ?ncbq6
                case ycbq6 => (intro w9 hSw; obtain ⟨s1, s2, s3, _⟩ := hSw; go_simp; first | done | with_reducible rfl | rfl)
                refine wpAnyM_take (i := 7) (v := ?vcbq7) hB rfl (by kernel_rfl) (fun _ _ _ h => h) (by first | kernel_rfl | simp [Region.wanted, yielded, Act.put]) ?ycbq7 hS ?ncbq7
                case ycbq7 => (intro w9 hSw; obtain ⟨s1, s2, s3, _⟩ := hSw; go_simp; first | done | with_reducible rfl | rfl)
                refine wpAnyM_take (i := 8) (v := ?vcbq8) hB rfl (by kernel_rfl) (fun _ _ _ h => h) (by first | kernel_rfl | simp [Region.wanted, yielded, Act.put]) ?ycbq8 hS ?ncbq8
                case ycbq8 => (intro w9 hSw; obtain ⟨s1, s2, s3, _⟩ := hSw; go_simp; first | done | with_reducible rfl | rfl)
                clear hS
                refine wpAnyM_one (i := 9) rfl (by kernel_rfl) rfl ?_
                go_wp2_with fail
                have HSw := Lib.hid (CellsAre.keep HSy.out ((Grows.refl wy).alloc (.cells #[.string zys, .string zyk, .int .i64 zyo, .string zyv] 66)))
                refine ⟨CellsAre.keep HSy.out ((Grows.refl _).alloc _), ?_⟩
                refine wpAnyM_one (i := 10) rfl (by kernel_rfl) rfl ?_
                go_wp2_with fail
                refine ⟨HSw.out, ?_⟩
                refine wpAnyM_tail (by kernel_rfl) ?_
                clear hB
                go_wp2_with fail
                go_meet
                exact ⟨_, rfl, rfl, BoxE.new wy ⟨zys, zyk, zyo, zyv⟩ _, JY.out.alloc _⟩
              · have HNE : Hid (∀ x ∈ ([(⟨w.heap.size + 1, 0, none⟩, (.slice B n d)), (⟨gp, q * 2, none⟩, .string ps), (⟨gp, q * 2 + 1, none⟩, .string pk)] : List (Addr × Value)), x.1.block ≠ w6.heap.size) := fun x hx => by
                  have z1 : w.heap.size + 1 < w6.heap.size := World.block_lt_of_cell? w6.drew _ HSx.out.1
                  have z2 : gp < w6.heap.size := World.block_lt_of_cell? w6.drew _ HSx.out.2.1
                  have z3 : gp < w6.heap.size := World.block_lt_of_cell? w6.drew _ HSx.out.2.2.1
                  simp only [List.mem_cons, List.not_mem_nil, or_false] at hx
                  rcases hx with rfl | rfl | rfl <;> (simp only; omega)
                go_wp2_with fail
                have GZ : Hid (Grows w6 (w6.alloc (.cells #[.string ⟨#[]⟩, .string ⟨#[]⟩, .int .i64 0, .string ⟨#[]⟩] 66)).drew) := ((Grows.refl w6).alloc _).drew
                have Ez : Hid (BoxE (w6.alloc (.cells #[.string ⟨#[]⟩, .string ⟨#[]⟩, .int .i64 0, .string ⟨#[]⟩] 66)).drew w6.heap.size Ent.zero 66) := (BoxE.new w6 Ent.zero _).keep (Grows.refl _).drew
                have hbz : w6.heap.size < (w6.alloc (.cells #[.string ⟨#[]⟩, .string ⟨#[]⟩, .int .i64 0, .string ⟨#[]⟩] 66)).drew.heap.size := Ez.out.lt
                have HSz : Hid (CellsAre [(⟨w.heap.size + 1, 0, none⟩, (.slice B n d)), (⟨gp, q * 2, none⟩, .string ps), (⟨gp, q * 2 + 1, none⟩, .string pk)] (w6.alloc (.cells #[.string ⟨#[]⟩, .string ⟨#[]⟩, .int .i64 0, .string ⟨#[]⟩] 66)).drew) := CellsAre.keep (show CellsAre _ w6 from HSx.out) GZ.out
                obtain ⟨wz, hwz⟩ : ∃ wz, (w6.alloc (.cells #[.string ⟨#[]⟩, .string ⟨#[]⟩, .int .i64 0, .string ⟨#[]⟩] 66)).drew = wz := ⟨_, rfl⟩
                rw [hwz] at GZ Ez HSz hbz ⊢
                clear hwz HSx
                refine ⟨HSz.out, ?_⟩
                refine wpAnyM_one (i := 5) rfl (by kernel_rfl) rfl ?_
                go_wp2_with fail
                refine (SB.out _ ((G5.out.trans GW6.out).trans GZ.out)).mono ?_
                rintro e wy ⟨rfl, gy⟩
                have JY : Hid (Grows w6 wy) := GZ.out.trans gy
                have HSy := Lib.hid (CellsAre.keep HSz.out gy)
                have Ey := Lib.hid (Ez.out.keep gy)
                clear gy HSz Ez GZ
                go_wp2_with fail
                refine ⟨HSy.out, ?_⟩
                have hS := HSy.out
                refine wpAnyM_take (i := 6) (v := ?vcbr6) hB rfl (by kernel_rfl) (fun _ _ _ h => h) (by first | kernel_rfl | simp [Region.wanted, yielded, Act.put]) ?ycbr6 hS ?ncbr6
                case ycbr6 => (intro w9 hSw; obtain ⟨s1, s2, s3, _⟩ := hSw; go_simp; first | done | with_reducible rfl | rfl)
                refine wpAnyM_take (i := 7) (v := ?vcbr7) hB rfl (by kernel_rfl) (fun _ _ _ h => h) (by first | kernel_rfl | simp [Region.wanted, yielded, Act.put]) ?ycbr7 hS ?ncbr7
                case ycbr7 => (intro w9 hSw; obtain ⟨s1, s2, s3, _⟩ := hSw; go_simp; first | done | with_reducible rfl | rfl)
                refine wpAnyM_take (i := 8) (v := ?vcbr8) hB rfl (by kernel_rfl) (fun _ _ _ h => h) (by first | kernel_rfl | simp [Region.wanted, yielded, Act.put]) ?ycbr8 hS ?ncbr8
                case ycbr8 => (intro w9 hSw; obtain ⟨s1, s2, s3, _⟩ := hSw; go_simp; first | done | with_reducible rfl | rfl)
                clear hS
                have v0 := Ey.out.at0
                have v1 := Ey.out.at1
                have v2 := Ey.out.at2
                have v3 := Ey.out.at3
                have vf0 := Ey.out.free 0
                have vf1 := Ey.out.free 1
                have vf2 := Ey.out.free 2
                have vf3 := Ey.out.free 3
                refine wpAnyM_one (i := 10) rfl (by kernel_rfl) rfl ?_
                go_wp2_with fail
                refine ⟨CellsAre.set_farC (CellsAre.set_farC (CellsAre.set_farC (CellsAre.set_farC HSy.out HNE.out) HNE.out) HNE.out) HNE.out, ?_⟩
                refine wpAnyM_tail (by kernel_rfl) ?_
                clear hB
                go_wp2_with fail
                go_meet
                exact ⟨_, rfl, rfl, BoxE.st4eC Ey.out ⟨zys, zyk, zyo, zyv⟩, (((JY.out.setCell (Nat.le_refl _) _).setCell (Nat.le_refl _) _).setCell (Nat.le_refl _) _).setCell (Nat.le_refl _) _⟩
            case rest =>
              obtain ⟨w7, hwc⟩ : ∃ x, x = wc := ⟨_, rfl⟩
              subst hwc
              obtain ⟨bY, rfl, rfl, EY, G7⟩ := hcut
              have EX := Lib.hid (EX6.out.keep G7.out)
              have GN : Hid (Grows w5 w7) := GW6.out.trans G7.out
              clear EX6 GW6 G7
              rcases fx with _ | x
              · obtain rfl : ix = false := HIX.out.symm
                have CT : Hid (catE us bs ⟨ps, pk, po, pv⟩ = 0) := CN.out HX.out
                have N0 : Hid (cntE us bs (P.take (q + 1)) 0 = n0 + 1) := by unfold Hid; rw [E0.out, CT.out] <;> rfl
                have N1 : Hid (cntE us bs (P.take (q + 1)) 1 = n1) := by unfold Hid; rw [E1.out, CT.out] <;> rfl
                have N2 : Hid (cntE us bs (P.take (q + 1)) 2 = n2) := by unfold Hid; rw [E2.out, CT.out] <;> rfl
                go_wp2
                go_roundw
                case rel => exact ⟨q + 1, by omega, by go_num, by rw [N0.out] <;> first | rfl | go_num, by rw [N1.out] <;> first | rfl | go_num, by rw [N2.out] <;> first | rfl | go_num, GN⟩
                case measure => (simp [intOf]; try omega)
              · obtain rfl : ix = true := HIX.out.symm
                obtain rfl : x = ⟨zxs, zxk, zxo, zxv⟩ := HZX.out
                rcases fy with _ | y
                · obtain rfl : iy = false := HIY.out.symm
                  have CT : Hid (catE us bs ⟨ps, pk, po, pv⟩ = 1) := CL.out _ HX.out HY.out
                  have N0 : Hid (cntE us bs (P.take (q + 1)) 0 = n0) := by unfold Hid; rw [E0.out, CT.out] <;> rfl
                  have N1 : Hid (cntE us bs (P.take (q + 1)) 1 = n1 + 1) := by unfold Hid; rw [E1.out, CT.out] <;> rfl
                  have N2 : Hid (cntE us bs (P.take (q + 1)) 2 = n2) := by unfold Hid; rw [E2.out, CT.out] <;> rfl
                  go_wp2
                  go_roundw
                  case rel => exact ⟨q + 1, by omega, by go_num, by rw [N0.out] <;> first | rfl | go_num, by rw [N1.out] <;> first | rfl | go_num, by rw [N2.out] <;> first | rfl | go_num, GN⟩
                  case measure => (simp [intOf]; try omega)
                · obtain rfl : iy = true := HIY.out.symm
                  obtain rfl : y = ⟨zys, zyk, zyo, zyv⟩ := HZY.out
                  rcases hsm : (⟨zxs, zxk, zxo, zxv⟩ : Ent).same ⟨zys, zyk, zyo, zyv⟩ with _ | _
                  · have CT : Hid (catE us bs ⟨ps, pk, po, pv⟩ = 2) := by unfold Hid; rw [CB.out _ _ HX.out HY.out, if_neg (by rw [hsm]; simp)]
                    have hne := fun w => neEnt ⟨zxs, zxk, zxo, zxv⟩ ⟨zys, zyk, zyo, zyv⟩ w
                    rw [hsm] at hne
                    unfold Ent.agg at hne
                    simp only [Bool.not_false] at hne
                    have x0 := EX.out.at0
                    have x1 := EX.out.at1
                    have x2 := EX.out.at2
                    have x3 := EX.out.at3
                    have y0 := EY.out.at0
                    have y1 := EY.out.at1
                    have y2 := EY.out.at2
                    have y3 := EY.out.at3
                    simp only at x0 x1 x2 x3 y0 y1 y2 y3
                    have N0 : Hid (cntE us bs (P.take (q + 1)) 0 = n0) := by unfold Hid; rw [E0.out, CT.out] <;> rfl
                    have N1 : Hid (cntE us bs (P.take (q + 1)) 1 = n1) := by unfold Hid; rw [E1.out, CT.out] <;> rfl
                    have N2 : Hid (cntE us bs (P.take (q + 1)) 2 = n2 + 1) := by unfold Hid; rw [E2.out, CT.out] <;> rfl
                    clear hsm
                    go_wp2
                    go_roundw
                    case rel => exact ⟨q + 1, by omega, by go_num, by rw [N0.out] <;> first | rfl | go_num, by rw [N1.out] <;> first | rfl | go_num, by rw [N2.out] <;> first | rfl | go_num, GN⟩
                    case measure => (simp [intOf]; try omega)
                  · have CT : Hid (catE us bs ⟨ps, pk, po, pv⟩ = 3) := by unfold Hid; rw [CB.out _ _ HX.out HY.out, if_pos hsm]
                    have hne := fun w => neEnt ⟨zxs, zxk, zxo, zxv⟩ ⟨zys, zyk, zyo, zyv⟩ w
                    rw [hsm] at hne
                    unfold Ent.agg at hne
                    simp only [Bool.not_true] at hne
                    have x0 := EX.out.at0
                    have x1 := EX.out.at1
                    have x2 := EX.out.at2
                    have x3 := EX.out.at3
                    have y0 := EY.out.at0
                    have y1 := EY.out.at1
                    have y2 := EY.out.at2
                    have y3 := EY.out.at3
                    simp only at x0 x1 x2 x3 y0 y1 y2 y3
                    have N0 : Hid (cntE us bs (P.take (q + 1)) 0 = n0) := by unfold Hid; rw [E0.out, CT.out] <;> rfl
                    have N1 : Hid (cntE us bs (P.take (q + 1)) 1 = n1) := by unfold Hid; rw [E1.out, CT.out] <;> rfl
                    have N2 : Hid (cntE us bs (P.take (q + 1)) 2 = n2) := by unfold Hid; rw [E2.out, CT.out] <;> rfl
                    clear hsm
                    go_wp2
                    go_roundw
                    case rel => exact ⟨q + 1, by omega, by go_num, by rw [N0.out] <;> first | rfl | go_num, by rw [N1.out] <;> first | rfl | go_num, by rw [N2.out] <;> first | rfl | go_num, GN⟩
                    case measure => (simp [intOf]; try omega)
        · obtain rfl : q = np := by omega
          have HE : Hid (P.take q = P) := List.take_of_length_le (by rw [HNP.out]; exact Nat.le_refl _)
          have r0 := HR.out 0
          have r1 := HR.out 1
          have r2 := HR.out 2
          rw [← HE.out] at r0 r1 r2
          have R0 := Lib.hid r0
          have R1 := Lib.hid r1
          have R2 := Lib.hid r2
          clear r0 r1 r2
          go_wp2
          go_ret3
          unfold CntRet
          rw [R0.out, R1.out, R2.out]
          exact ⟨rfl, G5.out.trans HG.out⟩
    · have hb' : vflat bs = false := by simpa using hb
      have HR : Hid (∀ j, chgN us bs j = -1) := fun j => by unfold chgN chgB; rw [hb']; simp
      rw [ha] at HFA
      rw [hb'] at HFB
      clear ha hb hb' hf hg hA hB hc0 hd0
      obtain ⟨m, hmm⟩ : ∃ m, us.length = m := ⟨_, rfl⟩
      obtain ⟨n, hnn⟩ : ∃ n, bs.length = n := ⟨_, rfl⟩
      rw [hmm] at HFA XA XB G0 ⊢
      rw [hnn] at HFB XA XB G0 ⊢
      clear hmm hnn
      go_enter Tryd.func33, Tryd.ntmps33
      go_upto_region 1 with (fail)
      obtain ⟨w0, hw0⟩ : ∃ w0, (w.alloc (.cells #[.slice A m c] 25)).alloc (.cells #[.slice B n d] 25) = w0 := ⟨_, rfl⟩
      rw [hw0] at XA XB G0 ⊢
      clear hw0
      have cA := XA.out.cell
      have cB := XB.out.cell
      go_wp2_with fail
      refine (HFA.out _ G0.out).mono ?_
      rintro e w1 ⟨rfl, g1⟩
      have XB1 := Lib.hid (XB.out.keep g1)
      have G1 : Hid (Grows w w1) := G0.out.trans g1
      clear g1 cA cB XA XB G0 HFA
      have cB := XB1.out.cell
      go_wp2_with fail
      refine (HFB.out _ G1.out).mono ?_
      rintro e w2 ⟨rfl, g2⟩
      have G2 : Hid (Grows w w2) := G1.out.trans g2
      clear g2 cB XB1 G1 HFB
      go_wp2
      go_ret3
      unfold CntRet
      rw [HR.out, HR.out, HR.out]
      exact ⟨rfl, G2.out⟩
  · have ha' : vflat us = false := by simpa using ha
    have HR : Hid (∀ j, chgN us bs j = -1) := fun j => by unfold chgN chgB; rw [ha']; simp
    rw [ha'] at HFA
    clear ha ha' hf hg hA hB hc0 hd0 HFB
    obtain ⟨m, hmm⟩ : ∃ m, us.length = m := ⟨_, rfl⟩
    obtain ⟨n, hnn⟩ : ∃ n, bs.length = n := ⟨_, rfl⟩
    rw [hmm] at HFA XA XB G0 ⊢
    rw [hnn] at XA XB G0 ⊢
    clear hmm hnn
    go_enter Tryd.func33, Tryd.ntmps33
    go_upto_region 1 with (fail)
    obtain ⟨w0, hw0⟩ : ∃ w0, (w.alloc (.cells #[.slice A m c] 25)).alloc (.cells #[.slice B n d] 25) = w0 := ⟨_, rfl⟩
    rw [hw0] at XA XB G0 ⊢
    clear hw0
    have cA := XA.out.cell
    have cB := XB.out.cell
    go_wp2_with fail
    refine (HFA.out _ G0.out).mono ?_
    rintro e w1 ⟨rfl, g1⟩
    have G1 : Hid (Grows w w1) := G0.out.trans g1
    clear g1 cA cB XA XB G0 HFA
    go_wp2
    go_ret3
    unfold CntRet
    rw [HR.out, HR.out, HR.out]
    exact ⟨rfl, G1.out⟩
end Go.Proofs.YtcecjdjfbgmogaaDoor
