/-
  The arguments that the drawn law of PatchLayers generates: two flat layers. Conditions: the reader's place is at most 20000.
  What the drawn laws of layers compare: equalLayer. Condition: at most 1048576 entries.
  Merging goes in either order: the entries of three layers, whichever two come first. Conditions: all layers are valid.
  What two layers have in common, both ways: pure. Conditions: both layers are valid.
  A patch over a flat layer tells what the other layer tells; flat layers that tell the same are the same. No program, no condition.
  CountChanges of the specification. Conditions: parts of at most 1048576 bytes.
  Pure: counted changes the other way round, their sum, and the numbers of entries.
  The drawn law of CountChanges with the arguments that it generates: whatever its bytes, it returns true. Condition: no more bytes than a slice may have.
-/
import Derived.Test.YtpkikpnfliohiaaDoorChg
import Derived.Test.YtpkikpnfliohiaaDoorGFlat
import Derived.Test.YtpkikpnfliohiaaDoorDrwL
import Derived.Deep.RegionHeld3
import Derived.Test.YtpkikpnfliohiaaDoorLawH
import Derived.Test.YtpkikpnfliohiaaDoorEqE
import Derived.Test.YtpkikpnfliohiaaDoorLayX
import Derived.Test.YtpkikpnfliohiaaDoorPutX
import Derived.Test.YtpkikpnfliohiaaDoorSameL
import Derived.Test.YtpkikpnfliohiaaDoorRslX
import Derived.Test.YtpkikpnfliohiaaDoorPatP
import Derived.Test.YtpkikpnfliohiaaDoorLawVL
import Derived.Test.YtpkikpnfliohiaaDoorCnt
namespace Go.Proofs.YtpkikpnfliohiaaDoor
open Go.RowKit

def TwoFl (g : Nat) (w : World) (e : Ending) (w' : World) : Prop := ∃ (v : Value) (K : List Ent) (u : Value) (L : List Ent), e = .returned (.tuple #[.agg #[v], .agg #[u]]) ∧ (ShortE K ∧ K.length ≤ 101) ∧ (ShortE L ∧ L.length ≤ 104) ∧ OwnE w' w.heap.size v K ∧ OwnE w' w.heap.size u L ∧ w.grownBy w' (some g)

set_option maxRecDepth 100000 in
set_option maxHeartbeats 8000000 in
theorem twoFlats_any (g : Nat) (A1 : Option Addr) (n1 c1 p : Nat) (w : World) (hp : p ≤ 20000) (hn1 : n1 ≤ 2000) (h : Rd w g A1 n1 c1 p) :
    Calls Tryd.prog 8 #[.pointer (some ⟨g, 0, none⟩)] w (TwoFl g w) := by
  have hgl := h.lt
  have R1 : Hid (Rd ((w.alloc (.cells #[.slice none 0 0] 25)).alloc (.cells #[.slice none 0 0] 25)) g A1 n1 c1 p) := h.keep (((Grows.refl w).alloc _).alloc _)
  have Z1 : Hid (Box ((w.alloc (.cells #[.slice none 0 0] 25)).alloc (.cells #[.slice none 0 0] 25)) w.heap.size (.slice none 0 0) 25) := row_grow (heap_alloc_new w _) ((Grows.refl _).alloc _)
  have V1 : Hid (Box ((w.alloc (.cells #[.slice none 0 0] 25)).alloc (.cells #[.slice none 0 0] 25)) (w.heap.size + 1) (.slice none 0 0) 25) := alloc_new2 w _ _
  have G1 : Hid (w.grownBy ((w.alloc (.cells #[.slice none 0 0] 25)).alloc (.cells #[.slice none 0 0] 25)) (some g)) := gb_of (((Grows.refl w).alloc _).alloc _)
  clear h
  go_enter Tryd.func8, Tryd.ntmps8
  go_upto_region 1 with (fail)
  obtain ⟨w1, hw1⟩ : ∃ w1, (w.alloc (.cells #[.slice none 0 0] 25)).alloc (.cells #[.slice none 0 0] 25) = w1 := ⟨_, rfl⟩
  rw [hw1] at R1 Z1 V1 G1 ⊢
  clear hw1
  have S1 : w.heap.size + 1 < w1.heap.size := V1.out.lt
  go_wp2_with fail
  refine (someFlat_any g A1 n1 c1 p _ (by omega) hn1 R1.out).mono ?_
  rintro e w2 ⟨v, K, rfl, hS, hK, hO, q2, a2, b2, r2, k2⟩
  have hgv : ∀ k, v.ownBlock = some k → k ≠ g ∧ k < w2.heap.size := fun k hk => by have h1 := (hO.lt k hk).1; have h3 := (hO.lt k hk).2; omega
  have Z2 : Hid (Box w2 w.heap.size (.slice none 0 0) 25) := row_keep Z1.out k2 (by omega)
  have V2 : Hid (Box w2 (w.heap.size + 1) (.slice none 0 0) 25) := row_keep V1.out k2 (by omega)
  have R2 := Lib.hid r2
  have O2 : Hid (OwnE w2 (w.heap.size + 2) v K) := hO.less (by omega)
  have G2 : Hid (w.grownBy w2 (some g)) := G1.out.trans k2
  have SS := Lib.hid hS
  have S2 : w.heap.size + 1 < w2.heap.size := V2.out.lt
  clear hS hO r2 k2 Z1 V1 R1 G1
  obtain ⟨A0, c0, rfl, hc0, _⟩ := OwnE.formC O2.out
  obtain ⟨m, hm⟩ : ∃ m, K.length = m := ⟨_, rfl⟩
  rw [hm] at O2 hgv hc0 ⊢
  have HM := Lib.hid hm
  have hmK : m ≤ 101 := by omega
  clear hm
  have X3 : Hid (Box (w2.alloc (.cells #[.slice A0 m c0] 25)) w2.heap.size (.slice A0 m c0) 25) := heap_alloc_new w2 _
  have Z3 := Lib.hid (Z2.out.keep ((Grows.refl w2).alloc (.cells #[.slice A0 m c0] 25)))
  have V3 := Lib.hid (V2.out.keep ((Grows.refl w2).alloc (.cells #[.slice A0 m c0] 25)))
  have O3 := Lib.hid (O2.out.keep ((Grows.refl w2).alloc (.cells #[.slice A0 m c0] 25)))
  have R3 := Lib.hid (R2.out.keep ((Grows.refl w2).alloc (.cells #[.slice A0 m c0] 25)))
  have G3 : Hid (w.grownBy (w2.alloc (.cells #[.slice A0 m c0] 25)) (some g)) := gb_grows G2.out ((Grows.refl _).alloc _)
  have HGV := Lib.hid hgv
  clear hgv
  go_upto_region 2 with (fail)
  obtain ⟨w3, hw3⟩ : ∃ w3, w2.alloc (.cells #[.slice A0 m c0] 25) = w3 := ⟨_, rfl⟩
  have hs3 : w3.heap.size = w2.heap.size + 1 := by rw [← hw3]; exact World.size_alloc _ _
  rw [hw3] at X3 Z3 V3 O3 R3 G3 ⊢
  clear hw3 Z2 V2 O2 R2 G2
  go_wp2_with fail
  refine (pick_any 3 g A1 n1 c1 q2 _ (by omega) (by omega) (by omega) hn1 R3.out).mono ?_
  rintro e w4 ⟨x, rfl, hx0, hx1, r4, k4⟩
  have hgw2 : g < w2.heap.size := by omega
  have X4 := Lib.hid (X3.out.far k4 (by intro e; injection e with e; omega))
  have Z4 := Lib.hid (Z3.out.far k4 (by intro e; injection e with e; omega))
  have V4 := Lib.hid (V3.out.far k4 (by intro e; injection e with e; omega))
  have O4 := Lib.hid (O3.out.far k4 (fun k hk e => by injection e with e; exact (HGV.out k hk).1 e.symm))
  have R4 := Lib.hid r4
  have G4 : Hid (w.grownBy w4 (some g)) := G3.out.trans k4
  clear r4 k4 hx1 X3 Z3 V3 O3 R3 G3
  have hszi : w2.heap.size < w4.heap.size := X4.out.lt
  have HEA := Lib.hid (fun w' (gg : Grows w4 w') => (O4.out.keep gg).at_.2)
  by_cases hx : 0 < x
  · go_wp2_with fail
    have hx4 := X4.out.cell
    have HCH := Lib.hid (changed_any g A1 n1 c1 (q2 + 1) A0 c0 K w4.drew (by omega) hn1 (R4.out.keep (Grows.refl w4).drew) SS.out hK (HEA.out _ (Grows.refl w4).drew))
    rw [HM.out] at HCH
    go_region_held3 (fun w' => w'.cell? ⟨w2.heap.size, 0, none⟩ = some (.slice A0 m c0)) (first | exact hx4 | exact x1 | exact xa | exact xb | go_keep) (first | (go_at_call 20; have HA1 := HCH.out; refine HA1.mono ?_; rintro e w9 ⟨u, L, rfl, hS9, hL9, hO9, q9, a9, b9, r9, k9'⟩; clear HA1; have k9 : Hid (w4.grownBy w9 (some g)) := (gb_of (Grows.refl w4).drew).trans k9'; clear k9' r9; obtain ⟨A9, n9, c9, hu9⟩ := OwnE.form3 hO9; subst hu9; have HS9 := Lib.hid hS9; have HO9 := Lib.hid hO9; clear hS9 hO9; have X9 := Lib.hid (X4.out.far k9.out (by intro e; injection e with e; omega)); have Z9 := Lib.hid (Z4.out.far k9.out (by intro e; injection e with e; omega)); have V9 := Lib.hid (V4.out.far k9.out (by intro e; injection e with e; omega)); have Za := Lib.hid (Z9.out.set_ (.slice A0 m c0)); have Va := Lib.hid (V9.out.far (gb_set (World.grownBy.refl w9 (some w.heap.size)) 0 (.slice A0 m c0)) (by intro e; injection e with e; omega)); have Xa := Lib.hid (X9.out.far (gb_set (World.grownBy.refl w9 (some w.heap.size)) 0 (.slice A0 m c0)) (by intro e; injection e with e; omega)); have Xb := Lib.hid (Xa.out.far (gb_set (World.grownBy.refl _ (some (w.heap.size + 1))) 0 (.slice A9 n9 c9)) (by intro e; injection e with e; omega)); have z0 := Z9.out.cell; have zf := Z9.out.free; have v0 := Va.out.cell; have vf := Va.out.free; have x1 := X9.out.cell; have xa := Xa.out.cell; have xb := Xb.out.cell))
    clear x1 xa xb z0 zf v0 vf hx4
    have OK9 := Lib.hid (O4.out.far k9.out (fun k hk e => by injection e with e; exact (HGV.out k hk).1 e.symm))
    have G9 : Hid (w.grownBy w9 (some g)) := G4.out.trans k9.out
    have hn1' : ((Value.slice A0 m c0).ownBlock ≠ some w.heap.size) := fun e => by have := (OK9.out.lt _ e).1; omega
    have hn2' : ((Value.slice A0 m c0).ownBlock ≠ some (w.heap.size + 1)) := fun e => by have := (OK9.out.lt _ e).1; omega
    have hn3' : ((Value.slice A9 n9 c9).ownBlock ≠ some w.heap.size) := fun e => by have := (HO9.out.lt _ e).1; have h9 : w4.drew.heap.size = w4.heap.size := rfl; omega
    have hn4' : ((Value.slice A9 n9 c9).ownBlock ≠ some (w.heap.size + 1)) := fun e => by have := (HO9.out.lt _ e).1; have h9 : w4.drew.heap.size = w4.heap.size := rfl; omega
    have OKf := Lib.hid (((OK9.out.setFar (i := 0) hn1' (.slice A0 m c0)).setFar (i := 0) hn2' (.slice A9 n9 c9)).less (show w.heap.size ≤ w.heap.size + 2 by omega))
    have OLf := Lib.hid (((HO9.out.setFar (i := 0) hn3' (.slice A0 m c0)).setFar (i := 0) hn4' (.slice A9 n9 c9)).less (show w.heap.size ≤ w4.drew.heap.size by have h9 : w4.drew.heap.size = w4.heap.size := rfl; omega))
    have GF : Hid (w.grownBy ((w9.setCell ⟨w.heap.size, 0, none⟩ (.slice A0 m c0)).setCell ⟨w.heap.size + 1, 0, none⟩ (.slice A9 n9 c9)) (some g)) := gb_new (gb_new G9.out (Nat.le_refl _) 0 _) (Nat.le_succ _) 0 _
    have ZF := Lib.hid (Za.out.far (gb_set (World.grownBy.refl _ (some (w.heap.size + 1))) 0 (.slice A9 n9 c9)) (by intro e; injection e with e; omega))
    have VF := Lib.hid (Va.out.set_ (.slice A9 n9 c9))
    obtain ⟨wf, hwf⟩ : ∃ wf, (w9.setCell ⟨w.heap.size, 0, none⟩ (.slice A0 m c0)).setCell ⟨w.heap.size + 1, 0, none⟩ (.slice A9 n9 c9) = wf := ⟨_, rfl⟩
    rw [hwf] at OKf OLf GF ZF VF ⊢
    clear hwf
    have hz := ZF.out.cell
    have hv := VF.out.cell
    go_wp2
    refine bodyPost_ret (v := .tuple #[.agg #[.slice A0 m c0], .agg #[.slice A9 n9 c9]]) (by simp [results, Tryd.results8, go_sem, hz, hv]) rfl ?_
    exact ⟨_, K, _, L, rfl, ⟨SS.out, hK⟩, ⟨HS9.out, hL9⟩, OKf.out, OLf.out, GF.out⟩
  · have hx2 : ¬ 0 < x := hx
    go_wp2_with fail
    have hx4 := X4.out.cell
    go_region_held3 (fun w' => w'.cell? ⟨w2.heap.size, 0, none⟩ = some (.slice A0 m c0)) (first | exact hx4 | exact x1 | exact xa | exact xb | go_keep) (first | (go_at_call 18; have HA1 := someFlat_any g A1 n1 c1 (q2 + 1) w4.drew (by omega) hn1 (R4.out.keep (Grows.refl w4).drew); refine HA1.mono ?_; rintro e w9 ⟨u, L, rfl, hS9, hL9, hO9, q9, a9, b9, r9, k9'⟩; clear HA1; have k9 : Hid (w4.grownBy w9 (some g)) := (gb_of (Grows.refl w4).drew).trans k9'; clear k9' r9; obtain ⟨A9, n9, c9, hu9⟩ := OwnE.form3 hO9; subst hu9; have HS9 := Lib.hid hS9; have HO9 := Lib.hid hO9; clear hS9 hO9; have X9 := Lib.hid (X4.out.far k9.out (by intro e; injection e with e; omega)); have Z9 := Lib.hid (Z4.out.far k9.out (by intro e; injection e with e; omega)); have V9 := Lib.hid (V4.out.far k9.out (by intro e; injection e with e; omega)); have Za := Lib.hid (Z9.out.set_ (.slice A0 m c0)); have Va := Lib.hid (V9.out.far (gb_set (World.grownBy.refl w9 (some w.heap.size)) 0 (.slice A0 m c0)) (by intro e; injection e with e; omega)); have Xa := Lib.hid (X9.out.far (gb_set (World.grownBy.refl w9 (some w.heap.size)) 0 (.slice A0 m c0)) (by intro e; injection e with e; omega)); have Xb := Lib.hid (Xa.out.far (gb_set (World.grownBy.refl _ (some (w.heap.size + 1))) 0 (.slice A9 n9 c9)) (by intro e; injection e with e; omega)); have z0 := Z9.out.cell; have zf := Z9.out.free; have v0 := Va.out.cell; have vf := Va.out.free; have x1 := X9.out.cell; have xa := Xa.out.cell; have xb := Xb.out.cell))
    clear x1 xa xb z0 zf v0 vf hx4
    have OK9 := Lib.hid (O4.out.far k9.out (fun k hk e => by injection e with e; exact (HGV.out k hk).1 e.symm))
    have G9 : Hid (w.grownBy w9 (some g)) := G4.out.trans k9.out
    have hn1' : ((Value.slice A0 m c0).ownBlock ≠ some w.heap.size) := fun e => by have := (OK9.out.lt _ e).1; omega
    have hn2' : ((Value.slice A0 m c0).ownBlock ≠ some (w.heap.size + 1)) := fun e => by have := (OK9.out.lt _ e).1; omega
    have hn3' : ((Value.slice A9 n9 c9).ownBlock ≠ some w.heap.size) := fun e => by have := (HO9.out.lt _ e).1; have h9 : w4.drew.heap.size = w4.heap.size := rfl; omega
    have hn4' : ((Value.slice A9 n9 c9).ownBlock ≠ some (w.heap.size + 1)) := fun e => by have := (HO9.out.lt _ e).1; have h9 : w4.drew.heap.size = w4.heap.size := rfl; omega
    have OKf := Lib.hid (((OK9.out.setFar (i := 0) hn1' (.slice A0 m c0)).setFar (i := 0) hn2' (.slice A9 n9 c9)).less (show w.heap.size ≤ w.heap.size + 2 by omega))
    have OLf := Lib.hid (((HO9.out.setFar (i := 0) hn3' (.slice A0 m c0)).setFar (i := 0) hn4' (.slice A9 n9 c9)).less (show w.heap.size ≤ w4.drew.heap.size by have h9 : w4.drew.heap.size = w4.heap.size := rfl; omega))
    have GF : Hid (w.grownBy ((w9.setCell ⟨w.heap.size, 0, none⟩ (.slice A0 m c0)).setCell ⟨w.heap.size + 1, 0, none⟩ (.slice A9 n9 c9)) (some g)) := gb_new (gb_new G9.out (Nat.le_refl _) 0 _) (Nat.le_succ _) 0 _
    have ZF := Lib.hid (Za.out.far (gb_set (World.grownBy.refl _ (some (w.heap.size + 1))) 0 (.slice A9 n9 c9)) (by intro e; injection e with e; omega))
    have VF := Lib.hid (Va.out.set_ (.slice A9 n9 c9))
    obtain ⟨wf, hwf⟩ : ∃ wf, (w9.setCell ⟨w.heap.size, 0, none⟩ (.slice A0 m c0)).setCell ⟨w.heap.size + 1, 0, none⟩ (.slice A9 n9 c9) = wf := ⟨_, rfl⟩
    rw [hwf] at OKf OLf GF ZF VF ⊢
    clear hwf
    have hz := ZF.out.cell
    have hv := VF.out.cell
    go_wp2
    refine bodyPost_ret (v := .tuple #[.agg #[.slice A0 m c0], .agg #[.slice A9 n9 c9]]) (by simp [results, Tryd.results8, go_sem, hz, hv]) rfl ?_
    exact ⟨_, K, _, L, rfl, ⟨SS.out, hK⟩, ⟨HS9.out, by omega⟩, OKf.out, OLf.out, GF.out⟩
end Go.Proofs.YtpkikpnfliohiaaDoor
namespace Go.Proofs.YtpkikpnfliohiaaDoor
open Go.RowKit

end Go.Proofs.YtpkikpnfliohiaaDoor
namespace Go.Proofs.YtpkikpnfliohiaaDoor
open Go.RowKit

theorem keysM_of_distE : ∀ es : List Ent, distE es = true → (es.map Ent.key).Nodup
  | [], _ => List.nodup_nil
  | e :: t, h => by
    unfold distE at h
    rw [Bool.and_eq_true, List.all_eq_true] at h
    rw [List.map_cons, List.nodup_cons]
    refine ⟨fun hm => ?_, keysM_of_distE t h.2⟩
    obtain ⟨x, hx, e1⟩ := List.mem_map.1 hm
    have h1 := h.1 x hx
    obtain ⟨e2, e3⟩ := key_inj e1
    have h2 : e.of x.s x.k = true := (of_iff e x.s x.k).2 ⟨e2.symm, e3.symm⟩
    rw [h2] at h1
    cases h1
theorem vlayer_keysM {es : List Ent} (h : vlayer es = true) : (es.map Ent.key).Nodup := keysM_of_distE es (vlayer_dist h)
theorem overE_op {t l : Ent} (h : t.op ≠ 2) : overE t l = t := by unfold overE; rw [if_neg h]
theorem overE_drop {t l : Ent} (h : t.op = 2) (h1 : l.op = 1) : overE t l = ⟨t.s, t.k, 0, t.v⟩ := by unfold overE; rw [if_pos h, if_pos h1]
theorem overE_add {t l : Ent} (h : t.op = 2) (h1 : l.op ≠ 1) : overE t l = ⟨l.s, l.k, l.op, l.v ++ ⟨#[44]⟩ ++ t.v⟩ := by unfold overE; rw [if_pos h, if_neg h1]
theorem overE_assoc (t u l : Ent) : overE t (overE u l) = overE (overE t u) l := by
  by_cases ht : t.op = 2
  · by_cases hu : u.op = 2
    · have hu1 : u.op ≠ 1 := by omega
      rw [overE_add ht hu1]
      by_cases hl : l.op = 1
      · rw [overE_drop hu hl, overE_add (l := ⟨u.s, u.k, 0, u.v⟩) ht (by show (0 : Int) ≠ 1; omega), overE_drop (t := ⟨u.s, u.k, u.op, u.v ++ ⟨#[44]⟩ ++ t.v⟩) hu hl]
      · rw [overE_add hu hl, overE_add (l := ⟨l.s, l.k, l.op, l.v ++ ⟨#[44]⟩ ++ u.v⟩) ht hl, overE_add (t := ⟨u.s, u.k, u.op, u.v ++ ⟨#[44]⟩ ++ t.v⟩) hu hl]
        simp only [ByteArray.append_assoc]
    · rw [overE_op hu]
      by_cases hu1 : u.op = 1
      · rw [overE_drop ht hu1, overE_op (t := ⟨t.s, t.k, 0, t.v⟩) (by show (0 : Int) ≠ 2; omega)]
      · rw [overE_add ht hu1, overE_op (t := ⟨u.s, u.k, u.op, u.v ++ ⟨#[44]⟩ ++ t.v⟩) hu]
  · rw [overE_op ht, overE_op ht, overE_op ht]
theorem overE_of {t l : Ent} {s k : ByteArray} (h1 : t.of s k = true) (h2 : l.of s k = true) : (overE t l).of s k = true := by
  unfold overE
  split
  · split
    · exact h1
    · exact h2
  · exact h1
/-- what one layer over another one has at a place -/
def comb : Option Ent → Option Ent → Option Ent
  | some t, some l => some (overE t l)
  | some t, none => some t
  | none, x => x
theorem comb_assoc (a b c : Option Ent) : comb a (comb b c) = comb (comb a b) c := by
  rcases a with _ | a
  · rfl
  · rcases b with _ | b
    · rcases c with _ | c <;> rfl
    · rcases c with _ | c
      · rfl
      · show some (overE a (overE b c)) = some (overE (overE a b) c)
        rw [overE_assoc]
theorem last_iff {P : List Ent} (hd : distE P = true) (s k : ByteArray) (e : Ent) : lastE P s k = some e ↔ e ∈ P ∧ e.of s k = true := by
  constructor
  · intro h
    obtain ⟨h1, h2⟩ := lastE_mem h
    exact ⟨h1, (of_iff _ _ _).2 h2⟩
  · rintro ⟨h1, h2⟩
    obtain ⟨rfl, rfl⟩ := (of_iff _ _ _).1 h2
    obtain ⟨j, hj, h3, h4⟩ := idx_self hd h1
    rcases last_idx hd e.s e.k with ⟨h5, _⟩ | ⟨j', hj', h5, h6⟩
    · omega
    · have : j' = j := by omega
      subst this
      rw [h6, h4]
theorem merge_last {X Y : List Ent} (hx : distE X = true) (hy : distE Y = true) (hm : distE (mergeR X Y) = true) (s k : ByteArray) : lastE (mergeR X Y) s k = comb (lastE X s k) (lastE Y s k) := by
  rcases hX : lastE X s k with _ | t
  · rcases hY : lastE Y s k with _ | l
    · rcases hM : lastE (mergeR X Y) s k with _ | e
      · rfl
      · exfalso
        obtain ⟨h1, h2⟩ := (last_iff hm s k e).1 hM
        unfold mergeR at h1
        rcases List.mem_append.1 h1 with h3 | h3
        · obtain ⟨l, hl, rfl⟩ := List.mem_map.1 h3
          have h4 : l.of s k = true := by
            unfold ovr at h2
            split at h2
            · rename_i t ht
              unfold overE at h2
              obtain ⟨_, h5, h6⟩ := lastE_mem ht
              have h7 : t.of s k = true → l.of s k = true := fun h8 => by
                obtain ⟨h9, h10⟩ := (of_iff _ _ _).1 h8
                exact (of_iff _ _ _).2 ⟨h5.symm.trans h9, h6.symm.trans h10⟩
              split at h2
              · split at h2
                · exact h7 h2
                · exact h2
              · exact h7 h2
            · exact h2
          have h5 := (last_iff hy s k l).2 ⟨hl, h4⟩
          rw [hY] at h5
          cases h5
        · have h5 := (last_iff hx s k e).2 ⟨(List.mem_filter.1 h3).1, h2⟩
          rw [hX] at h5
          cases h5
    · obtain ⟨h1, h2⟩ := (last_iff hy s k l).1 hY
      refine (last_iff hm s k l).2 ⟨?_, h2⟩
      unfold mergeR
      refine List.mem_append.2 (.inl (List.mem_map.2 ⟨l, h1, ?_⟩))
      obtain ⟨rfl, rfl⟩ := (of_iff _ _ _).1 h2
      unfold ovr
      rw [hX]
  · obtain ⟨h3, h4⟩ := (last_iff hx s k t).1 hX
    rcases hY : lastE Y s k with _ | l
    · refine (last_iff hm s k t).2 ⟨?_, h4⟩
      unfold mergeR
      refine List.mem_append.2 (.inr (List.mem_filter.2 ⟨h3, ?_⟩))
      obtain ⟨rfl, rfl⟩ := (of_iff _ _ _).1 h4
      unfold freshIn
      rw [← lastE_isSome, hY]
      rfl
    · obtain ⟨h1, h2⟩ := (last_iff hy s k l).1 hY
      refine (last_iff hm s k _).2 ⟨?_, overE_of h4 h2⟩
      unfold mergeR
      refine List.mem_append.2 (.inl (List.mem_map.2 ⟨l, h1, ?_⟩))
      obtain ⟨rfl, rfl⟩ := (of_iff _ _ _).1 h2
      unfold ovr
      rw [hX]
/-- merged in either order: the same entries -/
theorem merge3 {T U L : List Ent} (hT : vlayer T = true) (hU : vlayer U = true) (hL : vlayer L = true) (h1 : vlayer (mergeR U L) = true) (h2 : vlayer (mergeR T (mergeR U L)) = true) (h3 : vlayer (mergeR T U) = true) (h4 : vlayer (mergeR (mergeR T U) L) = true) :
    sameL (mergeR T (mergeR U L)) (mergeR (mergeR T U) L) = true := by
  have key : ∀ s k, lastE (mergeR T (mergeR U L)) s k = lastE (mergeR (mergeR T U) L) s k := fun s k => by
    rw [merge_last (vlayer_dist hT) (vlayer_dist h1) (vlayer_dist h2), merge_last (vlayer_dist hU) (vlayer_dist hL) (vlayer_dist h1), merge_last (vlayer_dist h3) (vlayer_dist hL) (vlayer_dist h4), merge_last (vlayer_dist hT) (vlayer_dist hU) (vlayer_dist h3), comb_assoc]
  have hmem : ∀ e, e ∈ mergeR T (mergeR U L) ↔ e ∈ mergeR (mergeR T U) L := fun e => by
    constructor
    · intro h
      have h5 := (last_iff (vlayer_dist h2) e.s e.k e).2 ⟨h, of_self e⟩
      rw [key] at h5
      exact ((last_iff (vlayer_dist h4) e.s e.k e).1 h5).1
    · intro h
      have h5 := (last_iff (vlayer_dist h4) e.s e.k e).2 ⟨h, of_self e⟩
      rw [← key] at h5
      exact ((last_iff (vlayer_dist h2) e.s e.k e).1 h5).1
  unfold sameL
  rw [h2, h4, Bool.true_and, Bool.true_and]
  exact sameE_of (vlayer_keysM h2) (vlayer_keysM h4) hmem
theorem merge_yes {X Y : List Ent} (h : mergeB X Y = true) : vlayer X = true ∧ vlayer Y = true ∧ vlayer (mergeR X Y) = true ∧ mergeL X Y = mergeR X Y := by
  unfold mergeB at h
  simp only [Bool.and_eq_true] at h
  refine ⟨h.1, h.2.1, h.2.2, ?_⟩
  unfold mergeL chkE
  rw [if_pos ⟨h.1, h.2.1⟩, if_pos h.2.2]
/-- the promise, as the law asks it -/
theorem merge3_told {T U L : List Ent} (h0 : mergeB U L = true) (h1 : mergeB T (mergeL U L) = true) (h2 : mergeB T U = true) (h3 : mergeB (mergeL T U) L = true) : sameL (mergeL T (mergeL U L)) (mergeL (mergeL T U) L) = true := by
  obtain ⟨a1, a2, a3, a4⟩ := merge_yes h0
  obtain ⟨b1, _, b3, b4⟩ := merge_yes h2
  have c := merge_yes h1
  have d := merge_yes h3
  rw [c.2.2.2, d.2.2.2]
  have c3 := c.2.2.1
  have d3 := d.2.2.1
  rw [a4] at c3 ⊢
  rw [b4] at d3 ⊢
  exact merge3 b1 a1 a2 a3 c3 b3 d3
end Go.Proofs.YtpkikpnfliohiaaDoor
namespace Go.Proofs.YtpkikpnfliohiaaDoor
open Go.RowKit

theorem inM_iff {bs : List Ent} (hb : vlayer bs = true) (e : Ent) : inE bs e = true ↔ e ∈ bs := by
  constructor
  · intro h
    unfold inE at h
    split at h
    · rename_i x hx
      rw [Bool.and_eq_true] at h
      have h2 := h.2
      unfold Ent.same at h2
      simp only [Bool.and_eq_true, beq_iff_eq] at h2
      obtain ⟨h1, h3, h4, h5⟩ := h2
      have hxe : x = e := by
        obtain ⟨a1, a2, a3, a4⟩ := x
        obtain ⟨b1, b2, b3, b4⟩ := e
        simp only at h1 h3 h4 h5
        rw [toList_inj h1, toList_inj h3, h4, toList_inj h5]
      rw [← hxe]
      exact List.mem_of_getElem? hx
    · cases h
  · exact fun h => inE_mem (vlayer_keysM hb) h
theorem keysM_filter {es : List Ent} (p : Ent → Bool) (h : (es.map Ent.key).Nodup) : ((es.filter p).map Ent.key).Nodup :=
  List.Nodup.sublist (List.Sublist.map _ List.filter_sublist) h
theorem vlayerM_filter {es : List Ent} (p : Ent → Bool) (h : vlayer es = true) : vlayer (es.filter p) = true := by
  have h1 := vlayer_keysM h
  have h2 := vlayer_20 h
  have h3 := List.length_filter_le p es
  unfold vlayer okE
  simp only [Bool.and_eq_true, decide_eq_true_eq, List.all_eq_true]
  refine ⟨⟨fun x hx => vlayer_vent h x (List.mem_filter.1 hx).1, distE_keys _ (keysM_filter p h1)⟩, by omega⟩
/-- the same either way -/
theorem com_flip {K L : List Ent} (h1 : vlayer K = true) (h2 : vlayer L = true) : sameL (comE L K) (comE K L) = true := by
  rw [comE_yes h2 h1, comE_yes h1 h2]
  have v1 := vlayerM_filter (inE K) h2
  have v2 := vlayerM_filter (inE L) h1
  unfold sameL
  rw [v1, v2, Bool.true_and, Bool.true_and]
  refine sameE_of (vlayer_keysM v1) (vlayer_keysM v2) (fun e => ?_)
  rw [List.mem_filter, List.mem_filter, inM_iff h1, inM_iff h2]
  exact And.comm
/-- common with what is common -/
theorem com_again {K L : List Ent} (h1 : vlayer K = true) (h2 : vlayer L = true) : comE K (comE K L) = comE K L := by
  have v2 := vlayerM_filter (inE L) h1
  rw [comE_yes h1 h2, comE_yes h1 v2]
  refine List.filter_congr (fun e he => ?_)
  rw [Bool.eq_iff_iff, inM_iff v2, List.mem_filter]
  exact ⟨fun h => h.2, fun h => ⟨he, h⟩⟩
theorem com_self {K : List Ent} (h1 : vlayer K = true) : comE K K = K := by
  rw [comE_yes h1 h1, List.filter_eq_self]
  exact fun e he => (inM_iff h1 e).2 he
end Go.Proofs.YtpkikpnfliohiaaDoor
namespace Go.Proofs.YtpkikpnfliohiaaDoor
open Go.RowKit

theorem keysU_of_distE : ∀ es : List Ent, distE es = true → (es.map Ent.key).Nodup
  | [], _ => List.nodup_nil
  | e :: t, h => by
    unfold distE at h
    rw [Bool.and_eq_true, List.all_eq_true] at h
    rw [List.map_cons, List.nodup_cons]
    refine ⟨fun hm => ?_, keysU_of_distE t h.2⟩
    obtain ⟨x, hx, e1⟩ := List.mem_map.1 hm
    have h1 := h.1 x hx
    obtain ⟨e2, e3⟩ := key_inj e1
    have h2 : e.of x.s x.k = true := (of_iff e x.s x.k).2 ⟨e2.symm, e3.symm⟩
    rw [h2] at h1
    cases h1
theorem vlayer_keysU {es : List Ent} (h : vlayer es = true) : (es.map Ent.key).Nodup := keysU_of_distE es (vlayer_dist h)
theorem find_and (q : Ent → Bool) (s k : ByteArray) : ∀ H : List Ent, distE H = true → H.find? (fun a => q a && a.of s k) = match H.find? (fun x => x.of s k) with
    | some e => if q e = true then some e else none
    | none => none := by
  intro H
  induction H with
  | nil => intro _; rfl
  | cons a t ih =>
    intro hd
    rw [distE, Bool.and_eq_true] at hd
    by_cases ha : a.of s k = true
    · rw [List.find?_cons_of_pos (p := fun x : Ent => x.of s k) ha]
      have hn : t.find? (fun x => x.of s k) = none := by
        rw [List.find?_eq_none]
        intro x hx h2
        have h3 := hd.1
        rw [List.all_eq_true] at h3
        have h4 := h3 x hx
        rw [of_sym ha h2] at h4
        cases h4
      by_cases hq : q a = true
      · rw [List.find?_cons_of_pos (p := fun x : Ent => q x && x.of s k) (by rw [hq, ha]; rfl)]
        simp [hq]
      · have hq' : q a = false := by simpa using hq
        rw [List.find?_cons_of_neg (p := fun x : Ent => q x && x.of s k) (by rw [hq']; simp), ih hd.2, hn]
        simp [hq']
    · have ha' : a.of s k = false := by simpa using ha
      rw [List.find?_cons_of_neg (p := fun x : Ent => q x && x.of s k) (by rw [ha']; simp), List.find?_cons_of_neg (p := fun x : Ent => x.of s k) ha, ih hd.2]
theorem find_filt (p q : Ent → Bool) : ∀ l : List Ent, (l.filter p).find? q = l.find? (fun a => p a && q a) := by
  intro l
  induction l with
  | nil => rfl
  | cons a t ih =>
    cases hp : p a <;> cases hq : q a <;> simp [hp, hq, ih]
theorem patch_find (N H : List Ent) (hH : distE H = true) (s k : ByteArray) : (patchR N H).find? (fun x => x.of s k) = match H.find? (fun x => x.of s k) with
    | some e => if newIn N e = true then some e else none
    | none => (N.find? (fun x => x.of s k)).map dropE := by
  unfold patchR
  rw [List.find?_append, List.find?_map, find_filt, find_filt, find_and (newIn N) s k H hH]
  have hc : ((fun x : Ent => x.of s k) ∘ dropE) = fun x : Ent => x.of s k := rfl
  rw [hc]
  cases hb : H.find? (fun x => x.of s k) with
  | some e =>
    have hem := List.mem_of_find?_eq_some hb
    have hep : e.of s k = true := by have h9 := List.find?_some hb; exact h9
    obtain ⟨e1, e2⟩ := (of_iff e s k).1 hep
    have h0 : N.find? (fun a => freshIn H a && a.of s k) = none := by
      rw [List.find?_eq_none]
      intro a _ h1
      rw [Bool.and_eq_true] at h1
      obtain ⟨a1, a2⟩ := (of_iff a s k).1 h1.2
      have h2 := h1.1
      unfold freshIn at h2
      rw [a1, a2] at h2
      have h3 : (H.any fun y => y.of s k) = true := by
        rw [List.any_eq_true]
        exact ⟨e, hem, hep⟩
      rw [h3] at h2
      cases h2
    rw [h0]
    rfl
  | none =>
    have h0 : (fun a : Ent => freshIn H a && a.of s k) = fun a : Ent => a.of s k := by
      funext a
      by_cases ha : a.of s k = true
      · obtain ⟨a1, a2⟩ := (of_iff a s k).1 ha
        have h2 : freshIn H a = true := by
          unfold freshIn
          rw [a1, a2]
          rw [List.find?_eq_none] at hb
          rw [Bool.not_eq_true', ← Bool.not_eq_true, List.any_eq_true]
          rintro ⟨y, hy, h5⟩
          exact hb y hy h5
        simp [h2, ha]
      · have ha' : a.of s k = false := by simpa using ha
        simp [ha']
    rw [h0]
    cases N.find? (fun x => x.of s k) <;> rfl
theorem flat_op {X : List Ent} (h : vflat X = true) : ∀ e ∈ X, e.op = 0 := by
  unfold vflat at h
  rw [Bool.and_eq_true] at h
  have hf : flatE X = true := by first | exact h.1 | exact h.2
  unfold flatE at hf
  rw [List.all_eq_true] at hf
  exact fun e he => of_decide_eq_true (hf e he)
theorem step_set {e : Ent} (h : e.op = 0) (cur : Option ByteArray) : stepV cur e = some e.v := by
  unfold stepV
  rw [if_pos h]
theorem told_undo {N H : List Ent} (hN : vflat N = true) (hH : vflat H = true) (hU : vlayer (patchR N H) = true) (s k : ByteArray) : toldV [patchR N H, N] s k = toldV [H] s k := by
  have dN := vlayer_dist (vflat_vlayer hN)
  have dH := vlayer_dist (vflat_vlayer hH)
  rw [told_two _ _ (vlayer_dist hU), told_one _ dN, told_one _ dH, patch_find N H dH]
  cases hb : H.find? (fun x => x.of s k) with
  | some e =>
    have hem := List.mem_of_find?_eq_some hb
    have hep : e.of s k = true := by have h9 := List.find?_some hb; exact h9
    obtain ⟨e1, e2⟩ := (of_iff e s k).1 hep
    simp only []
    rw [step_set (flat_op hH e hem)]
    have hl : lastE N e.s e.k = N.find? (fun x => x.of s k) := by rw [find_last N dN, e1, e2]
    unfold newIn
    rw [hl]
    cases hx : N.find? (fun x => x.of s k) with
    | none => simp [step_set (flat_op hH e hem)]
    | some t =>
      have htm := List.mem_of_find?_eq_some hx
      simp only []
      by_cases hv : (t.v.toList == e.v.toList) = true
      · have hve : t.v = e.v := toList_inj (by simpa using hv)
        rw [if_neg (by rw [hv]; simp)]
        simp only []
        rw [step_set (flat_op hN t htm), hve]
      · rw [if_pos (by simpa using hv)]
        simp only []
        rw [step_set (flat_op hH e hem)]
  | none =>
    simp only []
    cases hx : N.find? (fun x => x.of s k) with
    | none => rfl
    | some t => rfl
theorem findU_dist : ∀ (es : List Ent), distE es = true → ∀ e ∈ es, es.find? (fun x => x.of e.s e.k) = some e := by
  intro es
  induction es with
  | nil => intro _ e he; cases he
  | cons a t ih =>
    intro h e he
    rw [distE, Bool.and_eq_true] at h
    rcases List.mem_cons.1 he with rfl | he
    · rw [List.find?_cons_of_pos (p := fun x : Ent => x.of e.s e.k) ((of_iff e e.s e.k).2 ⟨rfl, rfl⟩)]
    · have h1 := h.1
      rw [List.all_eq_true] at h1
      have h2 := h1 e he
      rw [List.find?_cons_of_neg (p := fun x : Ent => x.of e.s e.k) (by
        intro h3
        rw [h3] at h2
        cases h2)]
      exact ih h.2 e he
theorem same_half {X H : List Ent} (hX : vflat X = true) (hH : vflat H = true) (h : ∀ s k, toldV [X] s k = toldV [H] s k) : ∀ e ∈ X, e ∈ H := fun e he => by
  have h1 := h e.s e.k
  rw [told_one _ (vlayer_dist (vflat_vlayer hX)), told_one _ (vlayer_dist (vflat_vlayer hH)), findU_dist X (vlayer_dist (vflat_vlayer hX)) e he] at h1
  simp only [] at h1
  rw [step_set (flat_op hX e he)] at h1
  cases hb : H.find? (fun x => x.of e.s e.k) with
  | none => rw [hb] at h1; cases h1
  | some y =>
    rw [hb] at h1
    have hym := List.mem_of_find?_eq_some hb
    have hyp : y.of e.s e.k = true := by have h9 := List.find?_some hb; exact h9
    obtain ⟨y1, y2⟩ := (of_iff y e.s e.k).1 hyp
    simp only [] at h1
    rw [step_set (flat_op hH y hym)] at h1
    injection h1 with h1
    have hy0 := flat_op hH y hym
    have he0 := flat_op hX e he
    obtain ⟨ys, yk, yo, yv⟩ := y
    obtain ⟨es, ek, eo, ev⟩ := e
    simp only at y1 y2 h1 hy0 he0
    subst y1 y2 h1 hy0 he0
    exact hym
theorem same_told {X H : List Ent} (hX : vflat X = true) (hH : vflat H = true) (h : ∀ s k, toldV [X] s k = toldV [H] s k) : sameL X H = true := by
  unfold sameL
  rw [vflat_vlayer hX, vflat_vlayer hH]
  exact sameE_of (vlayer_keysU (vflat_vlayer hX)) (vlayer_keysU (vflat_vlayer hH)) (fun e => ⟨same_half hX hH h e, same_half hH hX (fun s k => (h s k).symm) e⟩)
end Go.Proofs.YtpkikpnfliohiaaDoor
namespace Go.Proofs.YtpkikpnfliohiaaDoor
open Go.RowKit

theorem CellsAre.set_farC {w : World} {b j : Nat} {u : Value} : ∀ {l : List (Addr × Value)}, CellsAre l w → (∀ x ∈ l, x.1.block ≠ b) → CellsAre l (w.setCell ⟨b, j, none⟩ u)
  | [], _, _ => trivial
  | (p, v) :: l, h, hne => by
    refine ⟨(World.cell?_setCell_other w ⟨b, j, none⟩ p u (fun e => ?_)).trans h.1, CellsAre.set_farC h.2 (fun y hy => hne y (List.mem_cons_of_mem _ hy))⟩
    have h1 := hne (p, v) List.mem_cons_self
    have e1 := congrArg Addr.block e
    simp only at e1 h1
    omega
theorem BoxE.st4eC {w : World} {b : Nat} {e : Ent} {T : TypeId} (h : BoxE w b e T) (z : Ent) : BoxE ((((w.setCell ⟨b, 0, none⟩ (.string z.s)).setCell ⟨b, 1, none⟩ (.string z.k)).setCell ⟨b, 2, none⟩ (.int .i64 z.op)).setCell ⟨b, 3, none⟩ (.string z.v)) b z T := by
  unfold BoxE
  unfold BoxE at h
  simp [World.setCell, Array.getElem?_modify, h]


set_option maxRecDepth 100000 in
set_option maxHeartbeats 8000000 in
theorem specCnt_any (A : Option Addr) (c : Nat) (us : List Ent) (B : Option Addr) (d : Nat) (bs : List Ent) (w : World) (hc0 : us.length ≤ c) (hd0 : bs.length ≤ d) (hf : EFit us) (hA : EntsAt w A us) (hg : EFit bs) (hB : EntsAt w B bs) :
    Calls Tryd.prog 6 #[.agg #[.slice A us.length c], .agg #[.slice B bs.length d]] w (CntRet us bs w) := by
  have HFA := Lib.hid (fun w1 (g : Grows w w1) => specFlat0_any A c us w1 hc0 hf (hA.keep g))
  have HFB := Lib.hid (fun w1 (g : Grows w w1) => specFlat0_any B d bs w1 hd0 hg (hB.keep g))
  have XA : Hid (Box ((w.alloc (.cells #[.slice A us.length c] 25)).alloc (.cells #[.slice B bs.length d] 25)) w.heap.size (.slice A us.length c) 25) := row_grow (heap_alloc_new w _) ((Grows.refl _).alloc _)
  have XB : Hid (Box ((w.alloc (.cells #[.slice A us.length c] 25)).alloc (.cells #[.slice B bs.length d] 25)) (w.heap.size + 1) (.slice B bs.length d) 25) := alloc_new2 w _ _
  have G0 : Hid (Grows w ((w.alloc (.cells #[.slice A us.length c] 25)).alloc (.cells #[.slice B bs.length d] 25))) := ((Grows.refl w).alloc _).alloc _
  by_cases ha : vflat us = true
  · by_cases hb : vflat bs = true
    · have hva := vflat_vlayer ha
      have hvb := vflat_vlayer hb
      have HR : Hid (∀ j, chgN us bs j = (cntE us bs (chgL us bs) j : Int)) := fun j => by unfold chgN chgB; rw [ha, hb]; rfl
      have HSA := Lib.hid (fun (s k : ByteArray) w1 (g : Grows w w1) => stateOf_any A c us s k w1 (by have := hf.1; omega) hc0 (hA.keep g))
      have HSB := Lib.hid (fun (s k : ByteArray) w1 (g : Grows w w1) => stateOf_any B d bs s k w1 (by have := hg.1; omega) hd0 (hB.keep g))
      have h20 : ∀ l ∈ [us, bs], l.length ≤ 20 := fun l hl => by
        rcases List.mem_cons.1 hl with h | h
        · rw [h]; exact vlayer_20 hva
        · rw [List.mem_singleton] at h; rw [h]; exact vlayer_20 hvb
      have HPL := Lib.hid (fun (g : Nat) w1 (gr : Grows w w1) (h0 : w1.cell? ⟨g, 0, none⟩ = some (.slice A us.length c)) (h1 : w1.cell? ⟨g, 1, none⟩ = some (.slice B bs.length d)) (hgl : g < w1.heap.size) => specPlaces_any (some ⟨g, 0, none⟩) 2 [us, bs] w1 (by simp) h20 (stack2C_at hc0 hd0 (hA.keep gr) (hB.keep gr) h0 h1 hgl))
      have hal : firstsE [us, bs].flatten = chgL us bs := by unfold chgL; simp
      have hPl : (chgL us bs).length ≤ 40 := by
        have h1 := firstsE_len (us ++ bs)
        rw [List.length_append] at h1
        have := vlayer_20 hva
        have := vlayer_20 hvb
        exact Nat.le_trans h1 (by omega)
      rw [hal] at HPL
      rw [ha] at HFA
      rw [hb] at HFB
      have HCS := Lib.hid (fun (P : List Ent) q (h : q < P.length) j => cntE_succ us bs h j)
      have HCL := Lib.hid (fun (P : List Ent) q j => cntE_le us bs P q j)
      unfold StRet at HSA HSB
      clear ha hb hva hvb hal hf hg hA hB hc0 hd0 h20
      obtain ⟨P, hP⟩ : ∃ P, chgL us bs = P := ⟨_, rfl⟩
      rw [hP] at HR hPl HPL
      clear hP
      obtain ⟨m, hmm⟩ : ∃ m, us.length = m := ⟨_, rfl⟩
      obtain ⟨n, hnn⟩ : ∃ n, bs.length = n := ⟨_, rfl⟩
      rw [hmm] at HFA HSA HPL XA XB G0 ⊢
      rw [hnn] at HFB HSB HPL XA XB G0 ⊢
      clear hmm hnn
      go_enter Tryd.func6, Tryd.ntmps6
      go_upto_region 1 with (fail)
      obtain ⟨w0, hw0⟩ : ∃ w0, (w.alloc (.cells #[.slice A m c] 25)).alloc (.cells #[.slice B n d] 25) = w0 := ⟨_, rfl⟩
      rw [hw0] at XA XB G0 ⊢
      clear hw0
      have cA := XA.out.cell
      have cB := XB.out.cell
      go_wp2_with fail
      refine (HFA.out _ G0.out).mono ?_
      rintro e w1 ⟨rfl, g1⟩
      have XA1 := Lib.hid (XA.out.keep g1)
      have XB1 := Lib.hid (XB.out.keep g1)
      have G1 : Hid (Grows w w1) := G0.out.trans g1
      clear g1 cA cB XA XB G0 HFA
      have cA := XA1.out.cell
      have cB := XB1.out.cell
      go_wp2_with fail
      refine (HFB.out _ G1.out).mono ?_
      rintro e w2 ⟨rfl, g2⟩
      have XA4 := Lib.hid (XA1.out.keep g2)
      have XB4 := Lib.hid (XB1.out.keep g2)
      have G4 : Hid (Grows w w2) := G1.out.trans g2
      clear g2 cA cB XA1 XB1 G1 HFB
      have cA := XA4.out.cell
      have cB := XB4.out.cell
      go_wp2_with fail
      refine (HPL.out w2.heap.size _ (G4.out.alloc _) (by simp) (by simp) (by simp)).mono ?_
      rintro e w5 ⟨v, rfl, hv, g5⟩
      have XA5 := Lib.hid ((XA4.out.keep ((Grows.refl w2).alloc _)).keep g5)
      have XB5 := Lib.hid ((XB4.out.keep ((Grows.refl w2).alloc _)).keep g5)
      have G5 : Hid (Grows w w5) := (G4.out.alloc _).trans g5
      obtain ⟨AP, cP, rfl, hPA⟩ := hv.form
      have HPA := Lib.hid hPA
      clear g5 hv hPA cA cB XA4 XB4 G4 HPL
      obtain ⟨np, hnp⟩ : ∃ np, P.length = np := ⟨_, rfl⟩
      have HNP := Lib.hid hnp
      rw [hnp] at hPl ⊢
      clear hnp
      go_wp2_with fail
      go_loopw [7, 8, 9, 11] (fun a b t i wr => ∃ q : Nat, q ≤ np ∧ i = .int .i64 q ∧ a = .int .i64 (cntE us bs (P.take q) 0) ∧ b = .int .i64 (cntE us bs (P.take q) 1) ∧ t = .int .i64 (cntE us bs (P.take q) 2) ∧ Hid (Grows w5 wr)) (fun _ _ _ i _ => np - (intOf i).toNat)
      case atStart => exact ⟨0, Nat.zero_le _, rfl, rfl, rfl, rfl, Grows.refl _⟩
      case round =>
        obtain ⟨q, hq, rfl, rfl, rfl, rfl, HG⟩ := hrel
        have k0 := HCL.out P q 0
        have k1 := HCL.out P q 1
        have k2 := HCL.out P q 2
        by_cases hlt : q < np
        · have hq2 : q < P.length := by rw [HNP.out]; exact hlt
          obtain ⟨gp, rfl, hgp, hcp⟩ := HPA.out (by rw [HNP.out]; omega)
          obtain ⟨d0, d1⟩ := hcp q hq2
          have c0 := (HG.out.cell (p := ⟨gp, q * 2, none⟩) hgp).trans d0
          have c1 := (HG.out.cell (p := ⟨gp, q * 2 + 1, none⟩) hgp).trans d1
          have cA := (XA5.out.keep HG.out).cell
          have cB := (XB5.out.keep HG.out).cell
          have e0 := HCS.out P q hq2 0
          have e1 := HCS.out P q hq2 1
          have e2 := HCS.out P q hq2 2
          obtain ⟨⟨ps, pk, po, pv⟩, hp⟩ : ∃ e, P[q] = e := ⟨_, rfl⟩
          rw [hp] at c0 c1 e0 e1 e2
          simp only at c0 c1
          have E0 := Lib.hid e0
          have E1 := Lib.hid e1
          have E2 := Lib.hid e2
          have HC0 := Lib.hid c0
          have HC1 := Lib.hid c1
          have HCB := Lib.hid cB
          have SA := Lib.hid (HSA.out ps pk)
          have SB := Lib.hid (HSB.out ps pk)
          have CN := Lib.hid (@cat_none us bs ⟨ps, pk, po, pv⟩)
          have CL := Lib.hid (fun (x : Ent) h h2 => @cat_less us bs ⟨ps, pk, po, pv⟩ x h h2)
          have CB := Lib.hid (fun (x y : Ent) h h2 => @cat_both us bs ⟨ps, pk, po, pv⟩ x y h h2)
          simp only at CN CL CB
          clear hcp d0 d1 e0 e1 e2 hp
          obtain ⟨n0, hn0⟩ : ∃ n0, cntE us bs (P.take q) 0 = n0 := ⟨_, rfl⟩
          obtain ⟨n1, hn1⟩ : ∃ n1, cntE us bs (P.take q) 1 = n1 := ⟨_, rfl⟩
          obtain ⟨n2, hn2⟩ : ∃ n2, cntE us bs (P.take q) 2 = n2 := ⟨_, rfl⟩
          rw [hn0] at E0 k0 ⊢
          rw [hn1] at E1 k1 ⊢
          rw [hn2] at E2 k2 ⊢
          clear hn0 hn1 hn2
          obtain ⟨fx, hx⟩ : ∃ fx, us.find? (fun x => x.of ps pk) = fx := ⟨_, rfl⟩
          obtain ⟨fy, hy⟩ : ∃ fy, bs.find? (fun x => x.of ps pk) = fy := ⟨_, rfl⟩
          rw [hx] at SA
          rw [hy] at SB
          have HX := Lib.hid hx
          have HY := Lib.hid hy
          obtain ⟨zx, hzx⟩ : ∃ zx, fx.getD Ent.zero = zx := ⟨_, rfl⟩
          obtain ⟨zy, hzy⟩ : ∃ zy, fy.getD Ent.zero = zy := ⟨_, rfl⟩
          obtain ⟨ix, hix⟩ : ∃ ix, fx.isSome = ix := ⟨_, rfl⟩
          obtain ⟨iy, hiy⟩ : ∃ iy, fy.isSome = iy := ⟨_, rfl⟩
          rw [hzx, hix] at SA
          rw [hzy, hiy] at SB
          have HZX := Lib.hid hzx
          have HZY := Lib.hid hzy
          have HIX := Lib.hid hix
          have HIY := Lib.hid hiy
          clear hx hy hzx hzy hix hiy
          obtain ⟨zxs, zxk, zxo, zxv⟩ := zx
          obtain ⟨zys, zyk, zyo, zyv⟩ := zy
          unfold Ent.agg at SA SB
          simp only at SA SB
          go_upto_region 10 with (fail)
          go_cut [12, 13] (fun sW sB wx => ∃ bX : Nat, sW = .pointer (some ⟨bX, 0, none⟩) ∧ sB = .bool ix ∧ Hid (BoxE wx bX ⟨zxs, zxk, zxo, zxv⟩ 44) ∧ Hid (Grows wr wx))
          case first =>
            refine wp_region_M 11 (CellsAre [(⟨w.heap.size, 0, none⟩, (.slice A m c)), (⟨gp, q * 2, none⟩, .string ps), (⟨gp, q * 2 + 1, none⟩, .string pk)]) (by kernel_rfl) (by kernel_rfl) ⟨cA, HC0.out, HC1.out, trivial⟩ (fun hB hS => ?_)
            refine wpAnyM_take (i := 0) (v := ?vcc0) hB rfl (by kernel_rfl) (fun _ _ _ h => h) (by first | kernel_rfl | simp [Region.wanted, yielded, Act.put]) ?ycc0 hS ?ncc0
            case ycc0 => (intro w9 hSw; obtain ⟨s1, s2, s3, _⟩ := hSw; go_simp; first | done | with_reducible rfl | rfl)
            refine wpAnyM_take (i := 1) (v := ?vcc1) hB rfl (by kernel_rfl) (fun _ _ _ h => h) (by first | kernel_rfl | simp [Region.wanted, yielded, Act.put]) ?ycc1 hS ?ncc1
            case ycc1 => (intro w9 hSw; obtain ⟨s1, s2, s3, _⟩ := hSw; go_simp; first | done | with_reducible rfl | rfl)
            refine wpAnyM_take (i := 2) (v := ?vcc2) hB rfl (by kernel_rfl) (fun _ _ _ h => h) (by first | kernel_rfl | simp [Region.wanted, yielded, Act.put]) ?ycc2 hS ?ncc2
            case ycc2 => (intro w9 hSw; obtain ⟨s1, s2, s3, _⟩ := hSw; go_simp; first | done | with_reducible rfl | rfl)
            refine wpAnyM_take (i := 3) (v := ?vcc3) hB rfl (by kernel_rfl) (fun _ _ _ h => h) (by first | kernel_rfl | simp [Region.wanted, yielded, Act.put]) ?ycc3 hS ?ncc3
            case ycc3 => (intro w9 hSw; obtain ⟨s1, s2, s3, _⟩ := hSw; go_simp; first | done | with_reducible rfl | rfl)
            refine wpAnyM_take (i := 4) (v := ?vcc4) hB rfl (by kernel_rfl) (fun _ _ _ h => h) (by first | kernel_rfl | simp [Region.wanted, yielded, Act.put]) ?ycc4 hS ?ncc4
            case ycc4 => (intro w9 hSw; obtain ⟨s1, s2, s3, _⟩ := hSw; go_simp; first | done | with_reducible rfl | rfl)
            have HSx := Lib.hid hS
            clear hS
            refine wpAnyM_two (i := 5) (j := 9) rfl rfl (by kernel_rfl) rfl rfl ?_ ?_
            · go_wp2_with fail
              refine (SA.out _ ((G5.out.trans HG.out).drew)).mono ?_
              rintro e wy ⟨rfl, gy⟩
              have JY : Hid (Grows wr wy) := (Grows.refl wr).drew.trans gy
              have HSy := Lib.hid (CellsAre.keep HSx.out gy)
              clear gy HSx
              go_wp2_with fail
              refine ⟨HSy.out, ?_⟩
              have hS := HSy.out
              refine wpAnyM_take (i := 6) (v := ?vccq6) hB rfl (by kernel_rfl) (fun _ _ _ h => h) (by first | kernel_rfl | simp [Region.wanted, yielded, Act.put]) ?yccq6 hS ?nccq6
              case yccq6 => (intro w9 hSw; obtain ⟨s1, s2, s3, _⟩ := hSw; go_simp; first | done | with_reducible rfl | rfl)
              refine wpAnyM_take (i := 7) (v := ?vccq7) hB rfl (by kernel_rfl) (fun _ _ _ h => h) (by first | kernel_rfl | simp [Region.wanted, yielded, Act.put]) ?yccq7 hS ?nccq7
              case yccq7 => (intro w9 hSw; obtain ⟨s1, s2, s3, _⟩ := hSw; go_simp; first | done | with_reducible rfl | rfl)
              refine wpAnyM_take (i := 8) (v := ?vccq8) hB rfl (by kernel_rfl) (fun _ _ _ h => h) (by first | kernel_rfl | simp [Region.wanted, yielded, Act.put]) ?yccq8 hS ?nccq8
              case yccq8 => (intro w9 hSw; obtain ⟨s1, s2, s3, _⟩ := hSw; go_simp; first | done | with_reducible rfl | rfl)
              clear hS
              refine wpAnyM_one (i := 9) rfl (by kernel_rfl) rfl ?_
              go_wp2_with fail
              have HSw := Lib.hid (CellsAre.keep HSy.out ((Grows.refl wy).alloc (.cells #[.string zxs, .string zxk, .int .i64 zxo, .string zxv] 44)))
              refine ⟨CellsAre.keep HSy.out ((Grows.refl _).alloc _), ?_⟩
              refine wpAnyM_one (i := 10) rfl (by kernel_rfl) rfl ?_
              go_wp2_with fail
              refine ⟨HSw.out, ?_⟩
              refine wpAnyM_tail (by kernel_rfl) ?_
              clear hB
              go_wp2_with fail
              go_meet
              exact ⟨_, rfl, rfl, BoxE.new wy ⟨zxs, zxk, zxo, zxv⟩ _, JY.out.alloc _⟩
            · have HNE : Hid (∀ x ∈ ([(⟨w.heap.size, 0, none⟩, (.slice A m c)), (⟨gp, q * 2, none⟩, .string ps), (⟨gp, q * 2 + 1, none⟩, .string pk)] : List (Addr × Value)), x.1.block ≠ wr.heap.size) := fun x hx => by
                have z1 : w.heap.size < wr.heap.size := World.block_lt_of_cell? wr.drew _ HSx.out.1
                have z2 : gp < wr.heap.size := World.block_lt_of_cell? wr.drew _ HSx.out.2.1
                have z3 : gp < wr.heap.size := World.block_lt_of_cell? wr.drew _ HSx.out.2.2.1
                simp only [List.mem_cons, List.not_mem_nil, or_false] at hx
                rcases hx with rfl | rfl | rfl <;> (simp only; omega)
              go_wp2_with fail
              have GZ : Hid (Grows wr (wr.alloc (.cells #[.string ⟨#[]⟩, .string ⟨#[]⟩, .int .i64 0, .string ⟨#[]⟩] 44)).drew) := ((Grows.refl wr).alloc _).drew
              have Ez : Hid (BoxE (wr.alloc (.cells #[.string ⟨#[]⟩, .string ⟨#[]⟩, .int .i64 0, .string ⟨#[]⟩] 44)).drew wr.heap.size Ent.zero 44) := (BoxE.new wr Ent.zero _).keep (Grows.refl _).drew
              have hbz : wr.heap.size < (wr.alloc (.cells #[.string ⟨#[]⟩, .string ⟨#[]⟩, .int .i64 0, .string ⟨#[]⟩] 44)).drew.heap.size := Ez.out.lt
              have HSz : Hid (CellsAre [(⟨w.heap.size, 0, none⟩, (.slice A m c)), (⟨gp, q * 2, none⟩, .string ps), (⟨gp, q * 2 + 1, none⟩, .string pk)] (wr.alloc (.cells #[.string ⟨#[]⟩, .string ⟨#[]⟩, .int .i64 0, .string ⟨#[]⟩] 44)).drew) := CellsAre.keep (show CellsAre _ wr from HSx.out) GZ.out
              obtain ⟨wz, hwz⟩ : ∃ wz, (wr.alloc (.cells #[.string ⟨#[]⟩, .string ⟨#[]⟩, .int .i64 0, .string ⟨#[]⟩] 44)).drew = wz := ⟨_, rfl⟩
              rw [hwz] at GZ Ez HSz hbz ⊢
              clear hwz HSx
              refine ⟨HSz.out, ?_⟩
              refine wpAnyM_one (i := 5) rfl (by kernel_rfl) rfl ?_
              go_wp2_with fail
              refine (SA.out _ ((G5.out.trans HG.out).trans GZ.out)).mono ?_
              rintro e wy ⟨rfl, gy⟩
              have JY : Hid (Grows wr wy) := GZ.out.trans gy
              have HSy := Lib.hid (CellsAre.keep HSz.out gy)
              have Ey := Lib.hid (Ez.out.keep gy)
              clear gy HSz Ez GZ
              go_wp2_with fail
              refine ⟨HSy.out, ?_⟩
              have hS := HSy.out
              refine wpAnyM_take (i := 6) (v := ?vccr6) hB rfl (by kernel_rfl) (fun _ _ _ h => h) (by first | kernel_rfl | simp [Region.wanted, yielded, Act.put]) ?yccr6 hS ?nccr6
              case yccr6 => (intro w9 hSw; obtain ⟨s1, s2, s3, _⟩ := hSw; go_simp; first | done | with_reducible rfl | rfl)
              refine wpAnyM_take (i := 7) (v := ?vccr7) hB rfl (by kernel_rfl) (fun _ _ _ h => h) (by first | kernel_rfl | simp [Region.wanted, yielded, Act.put]) ?yccr7 hS ?nccr7
              case yccr7 => (intro w9 hSw; obtain ⟨s1, s2, s3, _⟩ := hSw; go_simp; first | done | with_reducible rfl | rfl)
              refine wpAnyM_take (i := 8) (v := ?vccr8) hB rfl (by kernel_rfl) (fun _ _ _ h => h) (by first | kernel_rfl | simp [Region.wanted, yielded, Act.put]) ?yccr8 hS ?nccr8
              case yccr8 => (intro w9 hSw; obtain ⟨s1, s2, s3, _⟩ := hSw; go_simp; first | done | with_reducible rfl | rfl)
              clear hS
              have v0 := Ey.out.at0
              have v1 := Ey.out.at1
              have v2 := Ey.out.at2
              have v3 := Ey.out.at3
              have vf0 := Ey.out.free 0
              have vf1 := Ey.out.free 1
              have vf2 := Ey.out.free 2
              have vf3 := Ey.out.free 3
              refine wpAnyM_one (i := 10) rfl (by kernel_rfl) rfl ?_
              go_wp2_with fail
              refine ⟨CellsAre.set_farC (CellsAre.set_farC (CellsAre.set_farC (CellsAre.set_farC HSy.out HNE.out) HNE.out) HNE.out) HNE.out, ?_⟩
              refine wpAnyM_tail (by kernel_rfl) ?_
              clear hB
              go_wp2_with fail
              go_meet
              exact ⟨_, rfl, rfl, BoxE.st4eC Ey.out ⟨zxs, zxk, zxo, zxv⟩, (((JY.out.setCell (Nat.le_refl _) _).setCell (Nat.le_refl _) _).setCell (Nat.le_refl _) _).setCell (Nat.le_refl _) _⟩
          case rest =>
            obtain ⟨w6, hwc⟩ : ∃ x, x = wc := ⟨_, rfl⟩
            subst hwc
            obtain ⟨bX, rfl, rfl, EX6, G6⟩ := hcut
            have GW6 : Hid (Grows w5 w6) := HG.out.trans G6.out
            have hl0 := World.block_lt_of_cell? wr _ HC0.out
            have hl1 := World.block_lt_of_cell? wr _ HC1.out
            have hlB := World.block_lt_of_cell? wr _ HCB.out
            have q0 := (G6.out.cell (p := ⟨gp, q * 2, none⟩) hl0).trans HC0.out
            have q1 := (G6.out.cell (p := ⟨gp, q * 2 + 1, none⟩) hl1).trans HC1.out
            have qB := (G6.out.cell (p := ⟨w.heap.size + 1, 0, none⟩) hlB).trans HCB.out
            clear HC0 HC1 HCB hl0 hl1 hlB c0 c1 cA cB
            have HC0 := Lib.hid q0
            have HC1 := Lib.hid q1
            have HCB := Lib.hid qB
            clear q0 q1 qB
            go_upto_region 11 with (fail)
            go_cut [14, 15] (fun sW sB wx => ∃ bX : Nat, sW = .pointer (some ⟨bX, 0, none⟩) ∧ sB = .bool iy ∧ Hid (BoxE wx bX ⟨zys, zyk, zyo, zyv⟩ 44) ∧ Hid (Grows w6 wx))
            case first =>
              refine wp_region_M 11 (CellsAre [(⟨w.heap.size + 1, 0, none⟩, (.slice B n d)), (⟨gp, q * 2, none⟩, .string ps), (⟨gp, q * 2 + 1, none⟩, .string pk)]) (by kernel_rfl) (by kernel_rfl) ⟨HCB.out, HC0.out, HC1.out, trivial⟩ (fun hB hS => ?_)
              refine wpAnyM_take (i := 0) (v := ?vcb0) hB rfl (by kernel_rfl) (fun _ _ _ h => h) (by first | kernel_rfl | simp [Region.wanted, yielded, Act.put]) ?ycb0 hS ?ncb0
              case ycb0 => (intro w9 hSw; obtain ⟨s1, s2, s3, _⟩ := hSw; go_simp; first | done | with_reducible rfl | rfl)
              refine wpAnyM_take (i := 1) (v := ?vcb1) hB rfl (by kernel_rfl) (fun _ _ _ h => h) (by first | kernel_rfl | simp [Region.wanted, yielded, Act.put]) ?ycb1 hS ?ncb1
              case ycb1 => (intro w9 hSw; obtain ⟨s1, s2, s3, _⟩ := hSw; go_simp; first | done | with_reducible rfl | rfl)
              refine wpAnyM_take (i := 2) (v := ?vcb2) hB rfl (by kernel_rfl) (fun _ _ _ h => h) (by first | kernel_rfl | simp [Region.wanted, yielded, Act.put]) ?ycb2 hS ?ncb2
              case ycb2 => (intro w9 hSw; obtain ⟨s1, s2, s3, _⟩ := hSw; go_simp; first | done | with_reducible rfl | rfl)
              refine wpAnyM_take (i := 3) (v := ?vcb3) hB rfl (by kernel_rfl) (fun _ _ _ h => h) (by first | kernel_rfl | simp [Region.wanted, yielded, Act.put]) ?ycb3 hS ?ncb3
              case ycb3 => (intro w9 hSw; obtain ⟨s1, s2, s3, _⟩ := hSw; go_simp; first | done | with_reducible rfl | rfl)
              refine wpAnyM_take (i := 4) (v := ?vcb4) hB rfl (by kernel_rfl) (fun _ _ _ h => h) (by first | kernel_rfl | simp [Region.wanted, yielded, Act.put]) ?ycb4 hS ?ncb4
              case ycb4 => (intro w9 hSw; obtain ⟨s1, s2, s3, _⟩ := hSw; go_simp; first | done | with_reducible rfl | rfl)
              have HSx := Lib.hid hS
              clear hS
              refine wpAnyM_two (i := 5) (j := 9) rfl rfl (by kernel_rfl) rfl rfl ?_ ?_
              · go_wp2_with fail
                refine (SB.out _ ((G5.out.trans GW6.out).drew)).mono ?_
                rintro e wy ⟨rfl, gy⟩
                have JY : Hid (Grows w6 wy) := (Grows.refl w6).drew.trans gy
                have HSy := Lib.hid (CellsAre.keep HSx.out gy)
                clear gy HSx
                go_wp2_with fail
                refine ⟨HSy.out, ?_⟩
                have hS := HSy.out
                refine wpAnyM_take (i := 6) (v := ?vcbq6) hB rfl (by kernel_rfl) (fun _ _ _ h => h) (by first | kernel_rfl | simp [Region.wanted, yielded, Act.put]) ?ycbq6 hS ?ncbq6
                case ycbq6 => (intro w9 hSw; obtain ⟨s1, s2, s3, _⟩ := hSw; go_simp; first | done | with_reducible rfl | rfl)
                refine wpAnyM_take (i := 7) (v := ?vcbq7) hB rfl (by kernel_rfl) (fun _ _ _ h => h) (by first | kernel_rfl | simp [Region.wanted, yielded, Act.put]) ?ycbq7 hS ?ncbq7
                case ycbq7 => (intro w9 hSw; obtain ⟨s1, s2, s3, _⟩ := hSw; go_simp; first | done | with_reducible rfl | rfl)
                refine wpAnyM_take (i := 8) (v := ?vcbq8) hB rfl (by kernel_rfl) (fun _ _ _ h => h) (by first | kernel_rfl | simp [Region.wanted, yielded, Act.put]) ?ycbq8 hS ?ncbq8
                case ycbq8 => (intro w9 hSw; obtain ⟨s1, s2, s3, _⟩ := hSw; go_simp; first | done | with_reducible rfl | rfl)
                clear hS
                refine wpAnyM_one (i := 9) rfl (by kernel_rfl) rfl ?_
                go_wp2_with fail
                have HSw := Lib.hid (CellsAre.keep HSy.out ((Grows.refl wy).alloc (.cells #[.string zys, .string zyk, .int .i64 zyo, .string zyv] 44)))
                refine ⟨CellsAre.keep HSy.out ((Grows.refl _).alloc _), ?_⟩
                refine wpAnyM_one (i := 10) rfl (by kernel_rfl) rfl ?_
                go_wp2_with fail
                refine ⟨HSw.out, ?_⟩
                refine wpAnyM_tail (by kernel_rfl) ?_
                clear hB
                go_wp2_with fail
                go_meet
                exact ⟨_, rfl, rfl, BoxE.new wy ⟨zys, zyk, zyo, zyv⟩ _, JY.out.alloc _⟩
              · have HNE : Hid (∀ x ∈ ([(⟨w.heap.size + 1, 0, none⟩, (.slice B n d)), (⟨gp, q * 2, none⟩, .string ps), (⟨gp, q * 2 + 1, none⟩, .string pk)] : List (Addr × Value)), x.1.block ≠ w6.heap.size) := fun x hx => by
                  have z1 : w.heap.size + 1 < w6.heap.size := World.block_lt_of_cell? w6.drew _ HSx.out.1
                  have z2 : gp < w6.heap.size := World.block_lt_of_cell? w6.drew _ HSx.out.2.1
                  have z3 : gp < w6.heap.size := World.block_lt_of_cell? w6.drew _ HSx.out.2.2.1
                  simp only [List.mem_cons, List.not_mem_nil, or_false] at hx
                  rcases hx with rfl | rfl | rfl <;> (simp only; omega)
                go_wp2_with fail
                have GZ : Hid (Grows w6 (w6.alloc (.cells #[.string ⟨#[]⟩, .string ⟨#[]⟩, .int .i64 0, .string ⟨#[]⟩] 44)).drew) := ((Grows.refl w6).alloc _).drew
                have Ez : Hid (BoxE (w6.alloc (.cells #[.string ⟨#[]⟩, .string ⟨#[]⟩, .int .i64 0, .string ⟨#[]⟩] 44)).drew w6.heap.size Ent.zero 44) := (BoxE.new w6 Ent.zero _).keep (Grows.refl _).drew
                have hbz : w6.heap.size < (w6.alloc (.cells #[.string ⟨#[]⟩, .string ⟨#[]⟩, .int .i64 0, .string ⟨#[]⟩] 44)).drew.heap.size := Ez.out.lt
                have HSz : Hid (CellsAre [(⟨w.heap.size + 1, 0, none⟩, (.slice B n d)), (⟨gp, q * 2, none⟩, .string ps), (⟨gp, q * 2 + 1, none⟩, .string pk)] (w6.alloc (.cells #[.string ⟨#[]⟩, .string ⟨#[]⟩, .int .i64 0, .string ⟨#[]⟩] 44)).drew) := CellsAre.keep (show CellsAre _ w6 from HSx.out) GZ.out
                obtain ⟨wz, hwz⟩ : ∃ wz, (w6.alloc (.cells #[.string ⟨#[]⟩, .string ⟨#[]⟩, .int .i64 0, .string ⟨#[]⟩] 44)).drew = wz := ⟨_, rfl⟩
                rw [hwz] at GZ Ez HSz hbz ⊢
                clear hwz HSx
                refine ⟨HSz.out, ?_⟩
                refine wpAnyM_one (i := 5) rfl (by kernel_rfl) rfl ?_
                go_wp2_with fail
                refine (SB.out _ ((G5.out.trans GW6.out).trans GZ.out)).mono ?_
                rintro e wy ⟨rfl, gy⟩
                have JY : Hid (Grows w6 wy) := GZ.out.trans gy
                have HSy := Lib.hid (CellsAre.keep HSz.out gy)
                have Ey := Lib.hid (Ez.out.keep gy)
                clear gy HSz Ez GZ
                go_wp2_with fail
                refine ⟨HSy.out, ?_⟩
                have hS := HSy.out
                refine wpAnyM_take (i := 6) (v := ?vcbr6) hB rfl (by kernel_rfl) (fun _ _ _ h => h) (by first | kernel_rfl | simp [Region.wanted, yielded, Act.put]) ?ycbr6 hS ?ncbr6
                case ycbr6 => (intro w9 hSw; obtain ⟨s1, s2, s3, _⟩ := hSw; go_simp; first | done | with_reducible rfl | rfl)
                refine wpAnyM_take (i := 7) (v := ?vcbr7) hB rfl (by kernel_rfl) (fun _ _ _ h => h) (by first | kernel_rfl | simp [Region.wanted, yielded, Act.put]) ?ycbr7 hS ?ncbr7
                case ycbr7 => (intro w9 hSw; obtain ⟨s1, s2, s3, _⟩ := hSw; go_simp; first | done | with_reducible rfl | rfl)
                refine wpAnyM_take (i := 8) (v := ?vcbr8) hB rfl (by kernel_rfl) (fun _ _ _ h => h) (by first | kernel_rfl | simp [Region.wanted, yielded, Act.put]) ?ycbr8 hS ?ncbr8
                case ycbr8 => (intro w9 hSw; obtain ⟨s1, s2, s3, _⟩ := hSw; go_simp; first | done | with_reducible rfl | rfl)
                clear hS
                have v0 := Ey.out.at0
                have v1 := Ey.out.at1
                have v2 := Ey.out.at2
                have v3 := Ey.out.at3
                have vf0 := Ey.out.free 0
                have vf1 := Ey.out.free 1
                have vf2 := Ey.out.free 2
                have vf3 := Ey.out.free 3
                refine wpAnyM_one (i := 10) rfl (by kernel_rfl) rfl ?_
                go_wp2_with fail
                refine ⟨CellsAre.set_farC (CellsAre.set_farC (CellsAre.set_farC (CellsAre.set_farC HSy.out HNE.out) HNE.out) HNE.out) HNE.out, ?_⟩
                refine wpAnyM_tail (by kernel_rfl) ?_
                clear hB
                go_wp2_with fail
                go_meet
                exact ⟨_, rfl, rfl, BoxE.st4eC Ey.out ⟨zys, zyk, zyo, zyv⟩, (((JY.out.setCell (Nat.le_refl _) _).setCell (Nat.le_refl _) _).setCell (Nat.le_refl _) _).setCell (Nat.le_refl _) _⟩
            case rest =>
              obtain ⟨w7, hwc⟩ : ∃ x, x = wc := ⟨_, rfl⟩
              subst hwc
              obtain ⟨bY, rfl, rfl, EY, G7⟩ := hcut
              have EX := Lib.hid (EX6.out.keep G7.out)
              have GN : Hid (Grows w5 w7) := GW6.out.trans G7.out
              clear EX6 GW6 G7
              rcases fx with _ | x
              · obtain rfl : ix = false := HIX.out.symm
                have CT : Hid (catE us bs ⟨ps, pk, po, pv⟩ = 0) := CN.out HX.out
                have N0 : Hid (cntE us bs (P.take (q + 1)) 0 = n0 + 1) := by unfold Hid; rw [E0.out, CT.out] <;> rfl
                have N1 : Hid (cntE us bs (P.take (q + 1)) 1 = n1) := by unfold Hid; rw [E1.out, CT.out] <;> rfl
                have N2 : Hid (cntE us bs (P.take (q + 1)) 2 = n2) := by unfold Hid; rw [E2.out, CT.out] <;> rfl
                go_wp2
                go_roundw
                case rel => exact ⟨q + 1, by omega, by go_num, by rw [N0.out] <;> first | rfl | go_num, by rw [N1.out] <;> first | rfl | go_num, by rw [N2.out] <;> first | rfl | go_num, GN⟩
                case measure => (simp [intOf]; try omega)
              · obtain rfl : ix = true := HIX.out.symm
                obtain rfl : x = ⟨zxs, zxk, zxo, zxv⟩ := HZX.out
                rcases fy with _ | y
                · obtain rfl : iy = false := HIY.out.symm
                  have CT : Hid (catE us bs ⟨ps, pk, po, pv⟩ = 1) := CL.out _ HX.out HY.out
                  have N0 : Hid (cntE us bs (P.take (q + 1)) 0 = n0) := by unfold Hid; rw [E0.out, CT.out] <;> rfl
                  have N1 : Hid (cntE us bs (P.take (q + 1)) 1 = n1 + 1) := by unfold Hid; rw [E1.out, CT.out] <;> rfl
                  have N2 : Hid (cntE us bs (P.take (q + 1)) 2 = n2) := by unfold Hid; rw [E2.out, CT.out] <;> rfl
                  go_wp2
                  go_roundw
                  case rel => exact ⟨q + 1, by omega, by go_num, by rw [N0.out] <;> first | rfl | go_num, by rw [N1.out] <;> first | rfl | go_num, by rw [N2.out] <;> first | rfl | go_num, GN⟩
                  case measure => (simp [intOf]; try omega)
                · obtain rfl : iy = true := HIY.out.symm
                  obtain rfl : y = ⟨zys, zyk, zyo, zyv⟩ := HZY.out
                  rcases hsm : (⟨zxs, zxk, zxo, zxv⟩ : Ent).same ⟨zys, zyk, zyo, zyv⟩ with _ | _
                  · have CT : Hid (catE us bs ⟨ps, pk, po, pv⟩ = 2) := by unfold Hid; rw [CB.out _ _ HX.out HY.out, if_neg (by rw [hsm]; simp)]
                    have hne := fun w => neEnt ⟨zxs, zxk, zxo, zxv⟩ ⟨zys, zyk, zyo, zyv⟩ w
                    rw [hsm] at hne
                    unfold Ent.agg at hne
                    simp only [Bool.not_false] at hne
                    have x0 := EX.out.at0
                    have x1 := EX.out.at1
                    have x2 := EX.out.at2
                    have x3 := EX.out.at3
                    have y0 := EY.out.at0
                    have y1 := EY.out.at1
                    have y2 := EY.out.at2
                    have y3 := EY.out.at3
                    simp only at x0 x1 x2 x3 y0 y1 y2 y3
                    have N0 : Hid (cntE us bs (P.take (q + 1)) 0 = n0) := by unfold Hid; rw [E0.out, CT.out] <;> rfl
                    have N1 : Hid (cntE us bs (P.take (q + 1)) 1 = n1) := by unfold Hid; rw [E1.out, CT.out] <;> rfl
                    have N2 : Hid (cntE us bs (P.take (q + 1)) 2 = n2 + 1) := by unfold Hid; rw [E2.out, CT.out] <;> rfl
                    clear hsm
                    go_wp2
                    go_roundw
                    case rel => exact ⟨q + 1, by omega, by go_num, by rw [N0.out] <;> first | rfl | go_num, by rw [N1.out] <;> first | rfl | go_num, by rw [N2.out] <;> first | rfl | go_num, GN⟩
                    case measure => (simp [intOf]; try omega)
                  · have CT : Hid (catE us bs ⟨ps, pk, po, pv⟩ = 3) := by unfold Hid; rw [CB.out _ _ HX.out HY.out, if_pos hsm]
                    have hne := fun w => neEnt ⟨zxs, zxk, zxo, zxv⟩ ⟨zys, zyk, zyo, zyv⟩ w
                    rw [hsm] at hne
                    unfold Ent.agg at hne
                    simp only [Bool.not_true] at hne
                    have x0 := EX.out.at0
                    have x1 := EX.out.at1
                    have x2 := EX.out.at2
                    have x3 := EX.out.at3
                    have y0 := EY.out.at0
                    have y1 := EY.out.at1
                    have y2 := EY.out.at2
                    have y3 := EY.out.at3
                    simp only at x0 x1 x2 x3 y0 y1 y2 y3
                    have N0 : Hid (cntE us bs (P.take (q + 1)) 0 = n0) := by unfold Hid; rw [E0.out, CT.out] <;> rfl
                    have N1 : Hid (cntE us bs (P.take (q + 1)) 1 = n1) := by unfold Hid; rw [E1.out, CT.out] <;> rfl
                    have N2 : Hid (cntE us bs (P.take (q + 1)) 2 = n2) := by unfold Hid; rw [E2.out, CT.out] <;> rfl
                    clear hsm
                    go_wp2
                    go_roundw
                    case rel => exact ⟨q + 1, by omega, by go_num, by rw [N0.out] <;> first | rfl | go_num, by rw [N1.out] <;> first | rfl | go_num, by rw [N2.out] <;> first | rfl | go_num, GN⟩
                    case measure => (simp [intOf]; try omega)
        · obtain rfl : q = np := by omega
          have HE : Hid (P.take q = P) := List.take_of_length_le (by rw [HNP.out]; exact Nat.le_refl _)
          have r0 := HR.out 0
          have r1 := HR.out 1
          have r2 := HR.out 2
          rw [← HE.out] at r0 r1 r2
          have R0 := Lib.hid r0
          have R1 := Lib.hid r1
          have R2 := Lib.hid r2
          clear r0 r1 r2
          go_wp2
          go_ret3
          unfold CntRet
          rw [R0.out, R1.out, R2.out]
          exact ⟨rfl, G5.out.trans HG.out⟩
    · have hb' : vflat bs = false := by simpa using hb
      have HR : Hid (∀ j, chgN us bs j = -1) := fun j => by unfold chgN chgB; rw [hb']; simp
      rw [ha] at HFA
      rw [hb'] at HFB
      clear ha hb hb' hf hg hA hB hc0 hd0
      obtain ⟨m, hmm⟩ : ∃ m, us.length = m := ⟨_, rfl⟩
      obtain ⟨n, hnn⟩ : ∃ n, bs.length = n := ⟨_, rfl⟩
      rw [hmm] at HFA XA XB G0 ⊢
      rw [hnn] at HFB XA XB G0 ⊢
      clear hmm hnn
      go_enter Tryd.func6, Tryd.ntmps6
      go_upto_region 1 with (fail)
      obtain ⟨w0, hw0⟩ : ∃ w0, (w.alloc (.cells #[.slice A m c] 25)).alloc (.cells #[.slice B n d] 25) = w0 := ⟨_, rfl⟩
      rw [hw0] at XA XB G0 ⊢
      clear hw0
      have cA := XA.out.cell
      have cB := XB.out.cell
      go_wp2_with fail
      refine (HFA.out _ G0.out).mono ?_
      rintro e w1 ⟨rfl, g1⟩
      have XB1 := Lib.hid (XB.out.keep g1)
      have G1 : Hid (Grows w w1) := G0.out.trans g1
      clear g1 cA cB XA XB G0 HFA
      have cB := XB1.out.cell
      go_wp2_with fail
      refine (HFB.out _ G1.out).mono ?_
      rintro e w2 ⟨rfl, g2⟩
      have G2 : Hid (Grows w w2) := G1.out.trans g2
      clear g2 cB XB1 G1 HFB
      go_wp2
      go_ret3
      unfold CntRet
      rw [HR.out, HR.out, HR.out]
      exact ⟨rfl, G2.out⟩
  · have ha' : vflat us = false := by simpa using ha
    have HR : Hid (∀ j, chgN us bs j = -1) := fun j => by unfold chgN chgB; rw [ha']; simp
    rw [ha'] at HFA
    clear ha ha' hf hg hA hB hc0 hd0 HFB
    obtain ⟨m, hmm⟩ : ∃ m, us.length = m := ⟨_, rfl⟩
    obtain ⟨n, hnn⟩ : ∃ n, bs.length = n := ⟨_, rfl⟩
    rw [hmm] at HFA XA XB G0 ⊢
    rw [hnn] at XA XB G0 ⊢
    clear hmm hnn
    go_enter Tryd.func6, Tryd.ntmps6
    go_upto_region 1 with (fail)
    obtain ⟨w0, hw0⟩ : ∃ w0, (w.alloc (.cells #[.slice A m c] 25)).alloc (.cells #[.slice B n d] 25) = w0 := ⟨_, rfl⟩
    rw [hw0] at XA XB G0 ⊢
    clear hw0
    have cA := XA.out.cell
    have cB := XB.out.cell
    go_wp2_with fail
    refine (HFA.out _ G0.out).mono ?_
    rintro e w1 ⟨rfl, g1⟩
    have G1 : Hid (Grows w w1) := G0.out.trans g1
    clear g1 cA cB XA XB G0 HFA
    go_wp2
    go_ret3
    unfold CntRet
    rw [HR.out, HR.out, HR.out]
    exact ⟨rfl, G1.out⟩
end Go.Proofs.YtpkikpnfliohiaaDoor
namespace Go.Proofs.YtpkikpnfliohiaaDoor
open Go.RowKit

theorem len_or (p q : Ent → Bool) : ∀ l : List Ent, (∀ y ∈ l, p y = true → q y = true → False) → (l.filter (fun y => p y || q y)).length = (l.filter p).length + (l.filter q).length := by
  intro l
  induction l with
  | nil => intro _; rfl
  | cons y l ih =>
    intro h
    have ih := ih (fun z hz => h z (List.mem_cons_of_mem _ hz))
    have h0 := h y (List.mem_cons_self ..)
    cases hp : p y <;> cases hq : q y
    · rw [List.filter_cons_of_neg (by simp [hp, hq]), List.filter_cons_of_neg (by simp [hp]), List.filter_cons_of_neg (by simp [hq]), ih]
    · rw [List.filter_cons_of_pos (by simp [hq]), List.filter_cons_of_neg (by simp [hp]), List.filter_cons_of_pos hq, List.length_cons, List.length_cons, ih]; omega
    · rw [List.filter_cons_of_pos (by simp [hp]), List.filter_cons_of_pos hp, List.filter_cons_of_neg (by simp [hq]), List.length_cons, List.length_cons, ih]; omega
    · exact (h0 hp hq).elim
theorem len_one (R : Ent → Bool) (k : List UInt8 × List UInt8) (hR : ∀ y, R y = true → y.key = k) : ∀ l : List Ent, (l.map Ent.key).Nodup → (l.filter R).length = if l.any R = true then 1 else 0 := by
  intro l
  induction l with
  | nil => intro _; rfl
  | cons y l ih =>
    intro h
    rw [List.map_cons, List.nodup_cons] at h
    have ih := ih h.2
    cases hy : R y with
    | false =>
      rw [List.filter_cons_of_neg (by simp [hy]), ih, List.any_cons, hy, Bool.false_or]
    | true =>
      have hn : l.any R = false := by
        rw [List.any_eq_false]
        intro z hz hzR
        exact h.1 (List.mem_map.2 ⟨z, hz, (hR z hzR).trans (hR y hy).symm⟩)
      rw [hn, if_neg (by simp)] at ih
      rw [List.filter_cons_of_pos hy, List.length_cons, ih, List.any_cons, hy, Bool.true_or, if_pos rfl]
theorem len_flip (R : Ent → Ent → Bool) (hR : ∀ x y, R x y = true → x.key = y.key) (L : List Ent) (hL : (L.map Ent.key).Nodup) : ∀ K : List Ent, (K.map Ent.key).Nodup → (K.filter (fun x => L.any (R x))).length = (L.filter (fun y => K.any (fun x => R x y))).length := by
  intro K
  induction K with
  | nil =>
    intro _
    have h0 : L.filter (fun y => ([] : List Ent).any (fun x => R x y)) = [] := by
      rw [List.filter_eq_nil_iff]
      intro a _
      simp
    rw [h0]; rfl
  | cons x K ih =>
    intro h
    rw [List.map_cons, List.nodup_cons] at h
    have ih := ih h.2
    have h1 : (L.filter (fun y => (x :: K).any (fun x => R x y))).length = (L.filter (R x)).length + (L.filter (fun y => K.any (fun x => R x y))).length := by
      simp only [List.any_cons]
      refine len_or _ _ L (fun y _ hp hq => ?_)
      obtain ⟨z, hz, hzy⟩ := List.any_eq_true.1 hq
      exact h.1 (List.mem_map.2 ⟨z, hz, (hR z y hzy).trans (hR x y hp).symm⟩)
    rw [h1, len_one (R x) x.key (fun y hy => (hR x y hy).symm) L hL, ← ih]
    cases hx : L.any (R x)
    · rw [List.filter_cons_of_neg (p := fun x => L.any (R x)) (by simp [hx]), if_neg (by simp)]; omega
    · rw [List.filter_cons_of_pos (p := fun x => L.any (R x)) hx, List.length_cons, if_pos rfl]; omega

theorem ofC_key {y x : Ent} (h : y.of x.s x.k = true) : x.key = y.key := by
  obtain ⟨h1, h2⟩ := (of_iff _ _ _).1 h
  unfold Ent.key
  rw [h1, h2]
theorem ofC_comm (x y : Ent) : y.of x.s x.k = x.of y.s y.k := by
  rw [Bool.eq_iff_iff, of_iff, of_iff]
  exact ⟨fun h => ⟨h.1.symm, h.2.symm⟩, fun h => ⟨h.1.symm, h.2.symm⟩⟩
theorem sameC_comm (x y : Ent) : y.same x = x.same y := by
  rw [Bool.eq_iff_iff, same_iff, same_iff]
  exact ⟨fun h => ⟨h.1.symm, h.2.1.symm, h.2.2.1.symm, h.2.2.2.symm⟩, fun h => ⟨h.1.symm, h.2.1.symm, h.2.2.1.symm, h.2.2.2.symm⟩⟩
theorem sameC_eq {x y : Ent} (h : x.same y = true) : x = y := by
  obtain ⟨h1, h2, h3, h4⟩ := (same_iff _ _).1 h
  cases x; cases y
  simp only at h1 h2 h3 h4
  rw [h1, h2, h3, h4]

/-- the places of two layers -/
theorem foldC (L : List Ent) : ∀ m : List Ent, distE L = true → L.foldl (fun m e => if (m.any fun y => y.of e.s e.k) = true then m else m ++ [e]) m = m ++ L.filter (freshIn m) := by
  induction L with
  | nil => intro m _; simp
  | cons e L ih =>
    intro m h
    rw [distE, Bool.and_eq_true] at h
    rw [List.foldl_cons]
    by_cases he : (m.any fun y => y.of e.s e.k) = true
    · rw [if_pos he, ih m h.2, List.filter_cons_of_neg (by unfold freshIn; rw [he]; simp)]
    · rw [if_neg he, ih (m ++ [e]) h.2, List.filter_cons_of_pos (by unfold freshIn; simpa using he), List.append_assoc]
      congr 1
      rw [List.singleton_append]
      congr 1
      refine List.filter_congr (fun x hx => ?_)
      have h2 := List.all_eq_true.1 h.1 x hx
      unfold freshIn
      rw [List.any_append]
      simp at h2
      simp [h2]
theorem firstsC {K L : List Ent} (hK : distE K = true) (hL : distE L = true) : firstsE (K ++ L) = K ++ L.filter (freshIn K) := by
  have h0 : K.foldl (fun m e => if (m.any fun y => y.of e.s e.k) = true then m else m ++ [e]) [] = K := by
    rw [foldC K [] hK, List.nil_append, List.filter_eq_self]
    intro a _
    rfl
  unfold firstsE
  rw [List.foldl_append, h0, foldC L K hL]

def difR (x y : Ent) : Bool := y.of x.s x.k && !(x.same y)
def isR (x y : Ent) : Bool := y.of x.s x.k

theorem findC {L : List Ent} (hL : distE L = true) {e y : Ent} (hy : y ∈ L) (h : y.of e.s e.k = true) : L.find? (fun x => x.of e.s e.k) = some y := by
  have h1 := findU_dist L hL y hy
  obtain ⟨h2, h3⟩ := (of_iff _ _ _).1 h
  rw [h2, h3] at h1
  exact h1
theorem freshC_none {L : List Ent} {e : Ent} : freshIn L e = true ↔ L.find? (fun x => x.of e.s e.k) = none := by
  unfold freshIn
  rw [List.find?_eq_none]
  simp
theorem catC1 {K L : List Ent} (hK : distE K = true) {e : Ent} (he : e ∈ K) : (catE K L e == 1) = freshIn L e ∧ (catE K L e == 0) = false := by
  have h := findU_dist K hK e he
  cases h2 : L.find? (fun x => x.of e.s e.k) with
  | none => rw [cat_less h h2, freshC_none.2 h2]; exact ⟨rfl, rfl⟩
  | some y =>
    have h3 : freshIn L e = false := by
      cases h4 : freshIn L e with
      | false => rfl
      | true => rw [freshC_none.1 h4] at h2; cases h2
    rw [cat_both h h2, h3]
    split <;> exact ⟨rfl, rfl⟩
theorem catC2 {K L : List Ent} (hK : distE K = true) (hL : distE L = true) {e : Ent} (he : e ∈ K) : (catE K L e == 2) = L.any (difR e) := by
  have h := findU_dist K hK e he
  cases h2 : L.find? (fun x => x.of e.s e.k) with
  | none =>
    rw [cat_less h h2]
    have h3 : L.any (difR e) = false := by
      rw [List.any_eq_false]
      intro y hy hd
      unfold difR at hd
      rw [Bool.and_eq_true] at hd
      rw [findC hL hy hd.1] at h2
      cases h2
    rw [h3]; rfl
  | some y =>
    have hy := List.mem_of_find?_eq_some h2
    have ho : y.of e.s e.k = true := by simpa using List.find?_some h2
    rw [cat_both h h2]
    by_cases hs : e.same y = true
    · rw [if_pos hs]
      have h3 : L.any (difR e) = false := by
        rw [List.any_eq_false]
        intro z hz hd
        unfold difR at hd
        rw [Bool.and_eq_true] at hd
        have h5 := findC hL hz hd.1
        rw [h2] at h5
        injection h5 with h5
        rw [← h5, hs] at hd
        simp at hd
      rw [h3]; rfl
    · rw [if_neg hs]
      have h3 : L.any (difR e) = true := List.any_eq_true.2 ⟨y, hy, by unfold difR; rw [ho]; simpa using hs⟩
      rw [h3]; rfl
theorem catC0 {K L : List Ent} {e : Ent} (he : freshIn K e = true) : catE K L e = 0 := cat_none (freshC_none.1 he)

theorem cntC {K L : List Ent} (hK : distE K = true) (hL : distE L = true) : cntE K L (chgL K L) 0 = (L.filter (freshIn K)).length ∧ cntE K L (chgL K L) 1 = (K.filter (freshIn L)).length ∧ cntE K L (chgL K L) 2 = (K.filter (fun x => L.any (difR x))).length := by
  unfold cntE chgL
  rw [firstsC hK hL]
  simp only [List.filter_append, List.length_append]
  have e0 : K.filter (fun e => catE K L e == 0) = [] := by
    rw [List.filter_eq_nil_iff]
    intro e he
    rw [(catC1 hK he).2]
    simp
  have e1 : K.filter (fun e => catE K L e == 1) = K.filter (freshIn L) := List.filter_congr (fun e he => (catC1 hK he).1)
  have e2 : K.filter (fun e => catE K L e == 2) = K.filter (fun x => L.any (difR x)) := List.filter_congr (fun e he => catC2 hK hL he)
  have f0 : (L.filter (freshIn K)).filter (fun e => catE K L e == 0) = L.filter (freshIn K) := by
    rw [List.filter_eq_self]
    intro e he
    rw [catC0 (List.mem_filter.1 he).2]; rfl
  have f1 : ∀ j, j ≠ 0 → (L.filter (freshIn K)).filter (fun e => catE K L e == j) = [] := by
    intro j hj
    rw [List.filter_eq_nil_iff]
    intro e he
    rw [catC0 (List.mem_filter.1 he).2]
    simp only [beq_iff_eq]
    omega
  rw [e0, e1, e2, f0, f1 1 (by omega), f1 2 (by omega)]
  simp

theorem len_not (p : Ent → Bool) (l : List Ent) : (l.filter p).length + (l.filter (fun x => !p x)).length = l.length := by
  induction l with
  | nil => rfl
  | cons a l ih =>
    cases h : p a
    · rw [List.filter_cons_of_neg (by simp [h]), List.filter_cons_of_pos (by simp [h]), List.length_cons, List.length_cons]; omega
    · rw [List.filter_cons_of_pos h, List.filter_cons_of_neg (by simp [h]), List.length_cons, List.length_cons]; omega
theorem lenC {K L : List Ent} (hK : vlayer K = true) (hL : vlayer L = true) : L.length + (K.filter (freshIn L)).length = K.length + (L.filter (freshIn K)).length := by
  have h := len_flip isR (fun x y h => ofC_key h) L (vlayer_keysU hL) K (vlayer_keysU hK)
  have h1 := len_not (freshIn L) K
  have h2 := len_not (freshIn K) L
  have e1 : K.filter (fun x => !freshIn L x) = K.filter (fun x => L.any (isR x)) := List.filter_congr (fun x _ => by unfold freshIn; rw [Bool.not_not]; rfl)
  have e2 : L.filter (fun x => !freshIn K x) = L.filter (fun y => K.any (fun x => isR x y)) := List.filter_congr (fun y _ => by
    unfold freshIn; rw [Bool.not_not]
    congr 1
    funext x
    exact (ofC_comm x y).symm)
  rw [e1] at h1
  rw [e2] at h2
  omega
theorem difC {K L : List Ent} (hK : vlayer K = true) (hL : vlayer L = true) : (L.filter (fun x => K.any (difR x))).length = (K.filter (fun x => L.any (difR x))).length := by
  have h := len_flip difR (fun x y h => by unfold difR at h; rw [Bool.and_eq_true] at h; exact ofC_key h.1) L (vlayer_keysU hL) K (vlayer_keysU hK)
  rw [h]
  congr 1
  refine List.filter_congr (fun y _ => ?_)
  congr 1
  funext x
  unfold difR
  rw [ofC_comm x y, sameC_comm x y]
theorem sumC {K L : List Ent} (hK : vlayer K = true) (hL : vlayer L = true) : ((L.filter (freshIn K)).length = 0 ∧ (K.filter (freshIn L)).length = 0 ∧ (K.filter (fun x => L.any (difR x))).length = 0) ↔ sameL K L = true := by
  have hl := lenC hK hL
  unfold sameL sameE
  rw [hK, hL]
  simp only [Bool.true_and, Bool.and_eq_true, decide_eq_true_eq, List.all_eq_true]
  constructor
  · rintro ⟨h0, h1, h2⟩
    refine ⟨by omega, fun e he => ?_⟩
    rw [inM_iff hL]
    rw [List.length_eq_zero_iff, List.filter_eq_nil_iff] at h1 h2
    have h3 := h1 e he
    have h4 := h2 e he
    unfold freshIn at h3
    simp only [Bool.not_eq_true, Bool.not_eq_false', List.any_eq_true] at h3
    obtain ⟨y, hy, ho⟩ := h3
    have h5 : e.same y = true := by
      cases h6 : e.same y with
      | true => rfl
      | false => exact (h4 (List.any_eq_true.2 ⟨y, hy, by unfold difR; rw [ho, h6]; rfl⟩)).elim
    rw [sameC_eq h5]
    exact hy
  · rintro ⟨h0, h1⟩
    have e1 : (K.filter (freshIn L)).length = 0 := by
      rw [List.length_eq_zero_iff, List.filter_eq_nil_iff]
      intro e he hf
      have h3 := (inM_iff hL e).1 (h1 e he)
      unfold freshIn at hf
      rw [Bool.not_eq_true', List.any_eq_false] at hf
      exact hf e h3 ((of_iff _ _ _).2 ⟨rfl, rfl⟩)
    refine ⟨by omega, e1, ?_⟩
    rw [List.length_eq_zero_iff, List.filter_eq_nil_iff]
    intro e he hf
    have h3 := (inM_iff hL e).1 (h1 e he)
    obtain ⟨z, hz, hd⟩ := List.any_eq_true.1 hf
    unfold difR at hd
    rw [Bool.and_eq_true] at hd
    have h5 := findC (vlayer_dist hL) hz hd.1
    have h6 := findU_dist L (vlayer_dist hL) e h3
    rw [h5] at h6
    injection h6 with h6
    rw [h6, Ent.same_self] at hd
    simp at hd
/-- what the law asks of the counts -/
theorem chg_law {K L : List Ent} (h : ¬ chgN K L 0 < 0) : chgN L K 0 = chgN K L 1 ∧ chgN L K 1 = chgN K L 0 ∧ chgN L K 2 = chgN K L 2 ∧ (chgN K L 0 + chgN K L 1 + chgN K L 2 == 0) = sameL K L ∧ (L.length : Int) = (K.length : Int) + chgN K L 0 - chgN K L 1 ∧ (∀ j, 0 ≤ chgN K L j ∧ chgN K L j ≤ (K.length : Int) + (L.length : Int)) := by
  have hb : chgB K L = true := by
    cases hb : chgB K L with
    | true => rfl
    | false => exfalso; apply h; unfold chgN; rw [hb]; simp
  have hb' : chgB L K = true := by unfold chgB at hb ⊢; rw [Bool.and_comm]; exact hb
  have hv := hb
  unfold chgB at hv
  rw [Bool.and_eq_true] at hv
  have hK := vflat_vlayer hv.1
  have hL := vflat_vlayer hv.2
  obtain ⟨a0, a1, a2⟩ := cntC (vlayer_dist hK) (vlayer_dist hL)
  obtain ⟨b0, b1, b2⟩ := cntC (vlayer_dist hL) (vlayer_dist hK)
  have hd := difC hK hL
  have hl := lenC hK hL
  have hs := sumC hK hL
  have hC : ∀ j, chgN K L j = (cntE K L (chgL K L) j : Int) := fun j => by unfold chgN; rw [hb, if_pos rfl]
  have hC' : ∀ j, chgN L K j = (cntE L K (chgL L K) j : Int) := fun j => by unfold chgN; rw [hb', if_pos rfl]
  have hle : ∀ j, cntE K L (chgL K L) j ≤ K.length + L.length := fun j => by
    unfold cntE chgL
    rw [firstsC (vlayer_dist hK) (vlayer_dist hL)]
    refine Nat.le_trans (List.length_filter_le _ _) ?_
    rw [List.length_append]
    exact Nat.add_le_add_left (List.length_filter_le _ _) _
  refine ⟨?_, ?_, ?_, ?_, ?_, fun j => ⟨?_, ?_⟩⟩
  · rw [hC, hC', b0, a1]
  · rw [hC, hC', b1, a0]
  · rw [hC, hC', b2, a2, hd]
  · rw [Bool.eq_iff_iff, ← hs, beq_iff_eq, hC, hC, hC, a0, a1, a2]
    omega
  · rw [hC, hC, a0, a1]; omega
  · rw [hC]; omega
  · rw [hC]
    have := hle j
    omega
end Go.Proofs.YtpkikpnfliohiaaDoor
namespace Go.Proofs.YtpkikpnfliohiaaDoor
open Go.RowKit

theorem fit104 {K : List Ent} (h : ShortE K) (hK : K.length ≤ 104) : EFit K := by
  refine ⟨by omega, fun i hi => ?_⟩
  obtain ⟨h1, h2, h3, _⟩ := h K[i] (List.getElem_mem hi)
  exact ⟨by omega, by omega, by omega⟩
theorem implSameP_own (v u : Value) (b1 b2 : Nat) (xs bs : List Ent) (w : World) (hf : EFit xs) (hg : EFit bs) (h1 : OwnE w b1 v xs) (h2 : OwnE w b2 u bs) :
    Calls Tryd.prog 7 #[.agg #[v], .agg #[u]] w fun e w' => e = .returned (.bool (sameL xs bs)) ∧ Grows w w' := by
  obtain ⟨A, c, rfl, hc, hA⟩ := h1.formC
  obtain ⟨B, d, rfl, hd, hB⟩ := h2.formC
  exact implSame_any A c xs B d bs w hf hA hg hB
theorem implCntO_own (v u : Value) (b1 b2 : Nat) (xs bs : List Ent) (w : World) (hf : EFit xs) (hg : EFit bs) (h1 : OwnE w b1 v xs) (h2 : OwnE w b2 u bs) :
    Calls Tryd.prog 5 #[.agg #[v], .agg #[u]] w (CntRet xs bs w) := by
  obtain ⟨A, c, rfl, hc, hA⟩ := h1.formC
  obtain ⟨B, d, rfl, hd, hB⟩ := h2.formC
  exact implCnt_any A c xs B d bs w hc hd hf hA hg hB
theorem specCntO_own (v u : Value) (b1 b2 : Nat) (xs bs : List Ent) (w : World) (hf : EFit xs) (hg : EFit bs) (h1 : OwnE w b1 v xs) (h2 : OwnE w b2 u bs) :
    Calls Tryd.prog 6 #[.agg #[v], .agg #[u]] w (CntRet xs bs w) := by
  obtain ⟨A, c, rfl, hc, hA⟩ := h1.formC
  obtain ⟨B, d, rfl, hd, hB⟩ := h2.formC
  exact specCnt_any A c xs B d bs w hc hd hf hA hg hB
theorem chg_law3 {K L : List Ent} (h : ¬ chgN K L 0 < 0) : chgN L K 0 = chgN K L 1 ∧ chgN L K 1 = chgN K L 0 ∧ chgN L K 2 = chgN K L 2 ∧ (chgN K L 0 + chgN K L 1 + chgN K L 2 == 0) = sameL K L ∧ (L.length : Int) = (K.length : Int) + chgN K L 0 - chgN K L 1 ∧ (0 ≤ chgN K L 0 ∧ chgN K L 0 ≤ (K.length : Int) + (L.length : Int)) ∧ (0 ≤ chgN K L 1 ∧ chgN K L 1 ≤ (K.length : Int) + (L.length : Int)) ∧ (0 ≤ chgN K L 2 ∧ chgN K L 2 ≤ (K.length : Int) + (L.length : Int)) := by
  obtain ⟨a, b, c, d, e, f⟩ := chg_law h
  exact ⟨a, b, c, d, e, f 0, f 1, f 2⟩
def DCn (w : World) (e : Ending) (w' : World) : Prop := ∃ (v : Value) (K : List Ent) (u : Value) (L : List Ent), e = .returned (.tuple #[.agg #[v], .agg #[u]]) ∧ (ShortE K ∧ K.length ≤ 101) ∧ (ShortE L ∧ L.length ≤ 104) ∧ OwnE w' w.heap.size v K ∧ OwnE w' w.heap.size u L ∧ Grows w w'
set_option maxRecDepth 100000 in
set_option maxHeartbeats 8000000 in
theorem DrawCountChanges_any (A : Option Addr) (n c : Nat) (w : World) (hn : n ≤ maxLen) (hc : n ≤ c) (h : BytesAt w A n) :
    Calls Tryd.prog 4 #[.slice A n c] w (DCn w) := by
  have HB := Lib.hid (fun o o2 => h.keep (((Grows.refl w).alloc o).alloc o2))
  clear h
  go_enter Tryd.func4, Tryd.ntmps4
  go_wp2_with fail
  refine (newReader_any A n c _ hn hc (HB.out _ _)).mono ?_
  rintro e w1 ⟨A1, n1, c1, g, rfl, hn1, hg, r1, k1⟩
  have hgw : w.heap.size + 1 < g := by simp at hg; omega
  have Z1 : Hid (Box w1 w.heap.size (.slice none 0 0) 25) := row_grow (row_grow (heap_alloc_new w _) ((Grows.refl _).alloc _)) k1
  have V1 : Hid (Box w1 (w.heap.size + 1) (.slice none 0 0) 25) := row_grow (alloc_new2 w _ _) k1
  have R1 := Lib.hid r1
  have G1 : Hid (Grows w w1) := (((Grows.refl w).alloc _).alloc _).trans k1
  have S1 : w.heap.size + 1 < w1.heap.size := V1.out.lt
  clear r1 k1 hg HB
  go_wp2_with fail
  refine (twoFlats_any g A1 n1 c1 0 _ (by omega) hn1 R1.out).mono ?_
  rintro e w3 ⟨v, K, u, L, rfl, ⟨hS, hK⟩, ⟨hT, hL⟩, hO, hP, k3⟩
  have Z3 : Hid (Box w3 w.heap.size (.slice none 0 0) 25) := row_keep Z1.out k3 (by omega)
  have V3 : Hid (Box w3 (w.heap.size + 1) (.slice none 0 0) 25) := row_keep V1.out k3 (by omega)
  have O3 : Hid (OwnE w3 (w.heap.size + 2) v K) := hO.less (by omega)
  have P3 : Hid (OwnE w3 (w.heap.size + 2) u L) := hP.less (by omega)
  have G3 : Hid (Grows w w3) := G1.out.mark k3 (fun i hi => by injection hi with hi; omega)
  have SS := Lib.hid hS
  have ST := Lib.hid hT
  obtain ⟨A9, n9, c9, rfl⟩ := O3.out.form3
  obtain ⟨A8, n8, c8, rfl⟩ := P3.out.form3
  clear hS hT hO hP k3 Z1 V1 R1 G1
  have z0 := Z3.out.cell
  have zf := Z3.out.free
  have v0 := V3.out.cell
  have vf := V3.out.free
  have HN0 : Hid ((Value.slice A9 n9 c9).ownBlock ≠ some w.heap.size) := fun e => by have := (O3.out.lt _ e).1; omega
  have HN1 : Hid ((Value.slice A9 n9 c9).ownBlock ≠ some (w.heap.size + 1)) := fun e => by have := (O3.out.lt _ e).1; omega
  have HM0 : Hid ((Value.slice A8 n8 c8).ownBlock ≠ some w.heap.size) := fun e => by have := (P3.out.lt _ e).1; omega
  have HM1 : Hid ((Value.slice A8 n8 c8).ownBlock ≠ some (w.heap.size + 1)) := fun e => by have := (P3.out.lt _ e).1; omega
  have F0 : Hid (Box ((w3.setCell ⟨w.heap.size, 0, none⟩ (.slice A9 n9 c9)).setCell ⟨w.heap.size + 1, 0, none⟩ (.slice A8 n8 c8)) w.heap.size (.slice A9 n9 c9) 25) := Box.far (row := some (w.heap.size + 1)) (Z3.out.set_ _) (gb_set (World.grownBy.refl _ _) _ _) (by intro e; injection e with e; omega)
  have F1 : Hid (Box ((w3.setCell ⟨w.heap.size, 0, none⟩ (.slice A9 n9 c9)).setCell ⟨w.heap.size + 1, 0, none⟩ (.slice A8 n8 c8)) (w.heap.size + 1) (.slice A8 n8 c8) 25) := Box.set_ (Box.far (row := some w.heap.size) V3.out (gb_set (World.grownBy.refl _ _) _ _) (by intro e; injection e with e; omega)) _
  have F2 := Lib.hid (((O3.out.setFar (i := 0) HN0.out (.slice A9 n9 c9)).setFar (i := 0) HN1.out (.slice A8 n8 c8)).less (show w.heap.size ≤ w.heap.size + 2 by omega))
  have F3 := Lib.hid (((P3.out.setFar (i := 0) HM0.out (.slice A9 n9 c9)).setFar (i := 0) HM1.out (.slice A8 n8 c8)).less (show w.heap.size ≤ w.heap.size + 2 by omega))
  have F4 : Hid (Grows w ((w3.setCell ⟨w.heap.size, 0, none⟩ (.slice A9 n9 c9)).setCell ⟨w.heap.size + 1, 0, none⟩ (.slice A8 n8 c8))) := (G3.out.setCell (Nat.le_refl _) _).setCell (show w.heap.size ≤ w.heap.size + 1 by omega) _
  go_wp2
  obtain ⟨wf, hwf⟩ : ∃ wf, (w3.setCell ⟨w.heap.size, 0, none⟩ (.slice A9 n9 c9)).setCell ⟨w.heap.size + 1, 0, none⟩ (.slice A8 n8 c8) = wf := ⟨_, rfl⟩
  rw [hwf] at F0 F1 F2 F3 F4 ⊢
  clear hwf z0 zf v0 vf
  have p0 := F0.out.cell
  have p1 := F1.out.cell
  refine bodyPost_ret (v := .tuple #[.agg #[.slice A9 n9 c9], .agg #[.slice A8 n8 c8]]) (by simp [results, Tryd.results4, go_sem, p0, p1]) rfl ?_
  exact ⟨_, K, _, L, rfl, ⟨SS.out, hK⟩, ⟨ST.out, hL⟩, F2.out, F3.out, F4.out⟩
set_option maxRecDepth 100000 in
set_option maxHeartbeats 8000000 in
theorem dCnt_any (A : Option Addr) (n c : Nat) (w : World) (hn : n ≤ maxLen) (hc : n ≤ c) (h : BytesAt w A n) :
    Calls Tryd.prog 3 #[.slice A n c] w fun e w' => e = .returned (.bool true) ∧ Below w.heap.size w w' := by
  by_cases hbig : 1048576 < n
  · clear h
    unfold maxLen at hn
    go_enter Tryd.func3, Tryd.ntmps3
    go_wp2
    go_ret
    exact ⟨rfl, (Grows.refl _).below⟩
  · have HD := Lib.hid (DrawCountChanges_any A n c w hn hc h)
    clear h
    unfold maxLen at hn
    go_enter Tryd.func3, Tryd.ntmps3
    go_wp2_with fail
    refine (HD.out).mono ?_
    rintro e w1 ⟨v, K, u, L, rfl, ⟨hS, hK⟩, ⟨hT, hL⟩, hO, hQ, g1⟩
    obtain ⟨A0, n0, c0, rfl⟩ := hO.form3
    obtain ⟨B0, d0, e0, rfl⟩ := hQ.form3
    have hf := hS.fit hK
    have hg := fit104 hT hL
    have hlK : n0 = K.length := hO.at_.1
    have hlL : d0 = L.length := hQ.at_.1
    have HL := Lib.hid (fun h => chg_law3 (K := K) (L := L) h)
    have HM1 := Lib.hid (fun (v u : Value) (b1 b2 : Nat) (w2 : World) (h1 : OwnE w2 b1 v K) (h2 : OwnE w2 b2 u L) => implCntO_own v u b1 b2 K L w2 hf hg h1 h2)
    have HM2 := Lib.hid (fun (v u : Value) (b1 b2 : Nat) (w2 : World) (h1 : OwnE w2 b1 v K) (h2 : OwnE w2 b2 u L) => specCntO_own v u b1 b2 K L w2 hf hg h1 h2)
    have HM3 := Lib.hid (fun (v u : Value) (b1 b2 : Nat) (w2 : World) (h1 : OwnE w2 b1 v L) (h2 : OwnE w2 b2 u K) => implCntO_own v u b1 b2 L K w2 hg hf h1 h2)
    have HSK := Lib.hid (fun (v u : Value) (b1 b2 : Nat) (w2 : World) (h1 : OwnE w2 b1 v K) (h2 : OwnE w2 b2 u L) => implSameP_own v u b1 b2 K L w2 hf hg h1 h2)
    unfold CntRet at HM1 HM2 HM3
    obtain ⟨r0, hr0⟩ : ∃ r, chgN K L 0 = r := ⟨_, rfl⟩
    obtain ⟨r1, hr1⟩ : ∃ r, chgN K L 1 = r := ⟨_, rfl⟩
    obtain ⟨r2, hr2⟩ : ∃ r, chgN K L 2 = r := ⟨_, rfl⟩
    obtain ⟨q0, hq0⟩ : ∃ r, chgN L K 0 = r := ⟨_, rfl⟩
    obtain ⟨q1, hq1⟩ : ∃ r, chgN L K 1 = r := ⟨_, rfl⟩
    obtain ⟨q2, hq2⟩ : ∃ r, chgN L K 2 = r := ⟨_, rfl⟩
    obtain ⟨ρ, hρ⟩ : ∃ ρ, sameL K L = ρ := ⟨_, rfl⟩
    rw [hr0, hr1, hr2] at HM1 HM2 HL
    rw [hq0, hq1, hq2] at HM3 HL
    rw [hρ] at HSK HL
    rw [← hlK, ← hlL] at HL
    rw [← hlK] at hK
    rw [← hlL] at hL
    have hne0 : (r0 != r0) = false := bne_self_eq_false r0
    have hne1 : (r1 != r1) = false := bne_self_eq_false r1
    have hne2 : (r2 != r2) = false := bne_self_eq_false r2
    have O0_1 := Lib.hid hO
    have L0_1 := Lib.hid hQ
    have T1 : Hid (Grows w1 w1) := Grows.refl _
    have HG1 := Lib.hid g1
    clear hS hT hO hQ g1 hf hg HD hr0 hr1 hr2 hq0 hq1 hq2 hρ hlK hlL
    go_upto_region 4 with (fail)
    obtain ⟨w2, hw2⟩ : ∃ w', w1.alloc (.cells #[.slice A0 n0 c0] 25) = w' := ⟨_, rfl⟩
    have X3_2 : Hid (Box w2 w1.heap.size (.slice A0 n0 c0) 25) := hw2 ▸ heap_alloc_new w1 _
    have gq : Grows w1 w2 := hw2 ▸ (Grows.refl w1).alloc _
    have hs2 : w2.heap.size = w1.heap.size + 1 := by rw [← hw2]; exact World.size_alloc _ _
    have T2 : Hid (Grows w1 w2) := T1.out.trans gq
    have O0_2 := Lib.hid (O0_1.out.keep gq)
    have L0_2 := Lib.hid (L0_1.out.keep gq)
    clear O0_1 L0_1 T1
    clear gq
    obtain ⟨w3, hw3⟩ : ∃ w', w2.alloc (.cells #[.slice B0 d0 e0] 25) = w' := ⟨_, rfl⟩
    have X4_3 : Hid (Box w3 w2.heap.size (.slice B0 d0 e0) 25) := hw3 ▸ heap_alloc_new w2 _
    have gq : Grows w2 w3 := hw3 ▸ (Grows.refl w2).alloc _
    have T3 : Hid (Grows w1 w3) := T2.out.trans gq
    have O0_3 := Lib.hid (O0_2.out.keep gq)
    have L0_3 := Lib.hid (L0_2.out.keep gq)
    have X3_3 := Lib.hid (X3_2.out.keep gq)
    clear O0_2 L0_2 X3_2 T2
    clear gq
    rw [hw2, hw3]
    rw [hs2] at X4_3
    clear hw2 hw3 hs2
    have cX3 := X3_3.out.cell
    have cX4 := X4_3.out.cell
    go_wp2_with fail
    refine (HM1.out _ _ _ _ _ O0_3.out L0_3.out).mono ?_
    rintro e w4 ⟨rfl, gq⟩
    clear cX3
    clear cX4
    have T4 : Hid (Grows w1 w4) := T3.out.trans gq
    have O0_4 := Lib.hid (O0_3.out.keep gq)
    have L0_4 := Lib.hid (L0_3.out.keep gq)
    have X3_4 := Lib.hid (X3_3.out.keep gq)
    have X4_4 := Lib.hid (X4_3.out.keep gq)
    clear O0_3 L0_3 X3_3 X4_3 T3
    clear gq
    have cX3 := X3_4.out.cell
    have cX4 := X4_4.out.cell
    go_wp2_with fail
    refine (HM2.out _ _ _ _ _ O0_4.out L0_4.out).mono ?_
    rintro e w5 ⟨rfl, gq⟩
    clear cX3
    clear cX4
    have T5 : Hid (Grows w1 w5) := T4.out.trans gq
    have O0_5 := Lib.hid (O0_4.out.keep gq)
    have L0_5 := Lib.hid (L0_4.out.keep gq)
    have X3_5 := Lib.hid (X3_4.out.keep gq)
    have X4_5 := Lib.hid (X4_4.out.keep gq)
    clear O0_4 L0_4 X3_4 X4_4 T4
    clear gq
    by_cases hneg : r0 < 0
    · clear HL
      go_wp2
      go_ret
      exact ⟨rfl, (HG1.out.trans T5.out).below⟩
    · obtain ⟨t1, t2, t3, hsum, hlen, ⟨p0, p0'⟩, ⟨p1, p1'⟩, ⟨p2, p2'⟩⟩ := HL.out (by omega)
      rw [t1, t2, t3] at HM3
      rw [← hsum] at HSK
      clear HL hsum t1 t2 t3
      go_upto_region 8 with (fail)
      have cX3 := X3_5.out.cell
      have cX4 := X4_5.out.cell
      go_wp2_with fail
      refine (HM3.out _ _ _ _ _ L0_5.out O0_5.out).mono ?_
      rintro e w6 ⟨rfl, gq⟩
      clear cX3
      clear cX4
      have T6 : Hid (Grows w1 w6) := T5.out.trans gq
      have O0_6 := Lib.hid (O0_5.out.keep gq)
      have L0_6 := Lib.hid (L0_5.out.keep gq)
      have X3_6 := Lib.hid (X3_5.out.keep gq)
      have X4_6 := Lib.hid (X4_5.out.keep gq)
      clear O0_5 L0_5 X3_5 X4_5 T5
      clear gq
      have cX3 := X3_6.out.cell
      have cX4 := X4_6.out.cell
      go_wp2_with fail
      refine (HSK.out _ _ _ _ _ O0_6.out L0_6.out).mono ?_
      rintro e w7 ⟨rfl, gq⟩
      clear cX3
      clear cX4
      have T7 : Hid (Grows w1 w7) := T6.out.trans gq
      have O0_7 := Lib.hid (O0_6.out.keep gq)
      have L0_7 := Lib.hid (L0_6.out.keep gq)
      have X3_7 := Lib.hid (X3_6.out.keep gq)
      have X4_7 := Lib.hid (X4_6.out.keep gq)
      clear O0_6 L0_6 X3_6 X4_6 T6
      clear gq
      have cX3 := X3_7.out.cell
      have cX4 := X4_7.out.cell
      go_wp2
      go_ret
      exact ⟨by simp, (HG1.out.trans T7.out).below⟩
end Go.Proofs.YtpkikpnfliohiaaDoor
