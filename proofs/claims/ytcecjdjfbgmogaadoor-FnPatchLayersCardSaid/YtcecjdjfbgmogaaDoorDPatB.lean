/-
  A patch over a flat layer tells what the other layer tells; flat layers that tell the same are the same. No program, no condition.
  What the drawn laws of layers compare: equalLayer. Condition: at most 1048576 entries.
  The arguments that the drawn law of PatchLayers generates: two flat layers. Conditions: the reader's place is at most 20000.
  A layer patched to itself needs no entry; a patch is empty exactly where both layers are the same. No program, no condition.
  The drawn law of PatchLayers with the arguments that it generates: whatever its bytes, it returns true. Condition: no more bytes than a slice may have.
-/
import Derived.Test.YtcecjdjfbgmogaaDoorRslX
import Derived.Test.YtcecjdjfbgmogaaDoorPatP
import Derived.Test.YtcecjdjfbgmogaaDoorSameL
import Derived.Test.YtcecjdjfbgmogaaDoorLawVL
import Derived.Test.YtcecjdjfbgmogaaDoorLawH
import Derived.Test.YtcecjdjfbgmogaaDoorEqE
import Derived.Test.YtcecjdjfbgmogaaDoorLayX
import Derived.Test.YtcecjdjfbgmogaaDoorChg
import Derived.Test.YtcecjdjfbgmogaaDoorGFlat
import Derived.Test.YtcecjdjfbgmogaaDoorDrwL
import Derived.Deep.RegionHeld3
import Derived.Test.YtcecjdjfbgmogaaDoorFltX
import Derived.Test.YtcecjdjfbgmogaaDoorPatI
import Derived.Test.YtcecjdjfbgmogaaDoorPatM
import Derived.Test.YtcecjdjfbgmogaaDoorRegG
namespace Go.Proofs.YtcecjdjfbgmogaaDoor
open Go.RowKit

theorem keysU_of_distE : ∀ es : List Ent, distE es = true → (es.map Ent.key).Nodup
  | [], _ => List.nodup_nil
  | e :: t, h => by
    unfold distE at h
    rw [Bool.and_eq_true, List.all_eq_true] at h
    rw [List.map_cons, List.nodup_cons]
    refine ⟨fun hm => ?_, keysU_of_distE t h.2⟩
    obtain ⟨x, hx, e1⟩ := List.mem_map.1 hm
    have h1 := h.1 x hx
    obtain ⟨e2, e3⟩ := key_inj e1
    have h2 : e.of x.s x.k = true := (of_iff e x.s x.k).2 ⟨e2.symm, e3.symm⟩
    rw [h2] at h1
    cases h1
theorem vlayer_keysU {es : List Ent} (h : vlayer es = true) : (es.map Ent.key).Nodup := keysU_of_distE es (vlayer_dist h)
theorem find_and (q : Ent → Bool) (s k : ByteArray) : ∀ H : List Ent, distE H = true → H.find? (fun a => q a && a.of s k) = match H.find? (fun x => x.of s k) with
    | some e => if q e = true then some e else none
    | none => none := by
  intro H
  induction H with
  | nil => intro _; rfl
  | cons a t ih =>
    intro hd
    rw [distE, Bool.and_eq_true] at hd
    by_cases ha : a.of s k = true
    · rw [List.find?_cons_of_pos (p := fun x : Ent => x.of s k) ha]
      have hn : t.find? (fun x => x.of s k) = none := by
        rw [List.find?_eq_none]
        intro x hx h2
        have h3 := hd.1
        rw [List.all_eq_true] at h3
        have h4 := h3 x hx
        rw [of_sym ha h2] at h4
        cases h4
      by_cases hq : q a = true
      · rw [List.find?_cons_of_pos (p := fun x : Ent => q x && x.of s k) (by rw [hq, ha]; rfl)]
        simp [hq]
      · have hq' : q a = false := by simpa using hq
        rw [List.find?_cons_of_neg (p := fun x : Ent => q x && x.of s k) (by rw [hq']; simp), ih hd.2, hn]
        simp [hq']
    · have ha' : a.of s k = false := by simpa using ha
      rw [List.find?_cons_of_neg (p := fun x : Ent => q x && x.of s k) (by rw [ha']; simp), List.find?_cons_of_neg (p := fun x : Ent => x.of s k) ha, ih hd.2]
theorem find_filt (p q : Ent → Bool) : ∀ l : List Ent, (l.filter p).find? q = l.find? (fun a => p a && q a) := by
  intro l
  induction l with
  | nil => rfl
  | cons a t ih =>
    cases hp : p a <;> cases hq : q a <;> simp [hp, hq, ih]
theorem patch_find (N H : List Ent) (hH : distE H = true) (s k : ByteArray) : (patchR N H).find? (fun x => x.of s k) = match H.find? (fun x => x.of s k) with
    | some e => if newIn N e = true then some e else none
    | none => (N.find? (fun x => x.of s k)).map dropE := by
  unfold patchR
  rw [List.find?_append, List.find?_map, find_filt, find_filt, find_and (newIn N) s k H hH]
  have hc : ((fun x : Ent => x.of s k) ∘ dropE) = fun x : Ent => x.of s k := rfl
  rw [hc]
  cases hb : H.find? (fun x => x.of s k) with
  | some e =>
    have hem := List.mem_of_find?_eq_some hb
    have hep : e.of s k = true := by have h9 := List.find?_some hb; exact h9
    obtain ⟨e1, e2⟩ := (of_iff e s k).1 hep
    have h0 : N.find? (fun a => freshIn H a && a.of s k) = none := by
      rw [List.find?_eq_none]
      intro a _ h1
      rw [Bool.and_eq_true] at h1
      obtain ⟨a1, a2⟩ := (of_iff a s k).1 h1.2
      have h2 := h1.1
      unfold freshIn at h2
      rw [a1, a2] at h2
      have h3 : (H.any fun y => y.of s k) = true := by
        rw [List.any_eq_true]
        exact ⟨e, hem, hep⟩
      rw [h3] at h2
      cases h2
    rw [h0]
    rfl
  | none =>
    have h0 : (fun a : Ent => freshIn H a && a.of s k) = fun a : Ent => a.of s k := by
      funext a
      by_cases ha : a.of s k = true
      · obtain ⟨a1, a2⟩ := (of_iff a s k).1 ha
        have h2 : freshIn H a = true := by
          unfold freshIn
          rw [a1, a2]
          rw [List.find?_eq_none] at hb
          rw [Bool.not_eq_true', ← Bool.not_eq_true, List.any_eq_true]
          rintro ⟨y, hy, h5⟩
          exact hb y hy h5
        simp [h2, ha]
      · have ha' : a.of s k = false := by simpa using ha
        simp [ha']
    rw [h0]
    cases N.find? (fun x => x.of s k) <;> rfl
theorem flat_op {X : List Ent} (h : vflat X = true) : ∀ e ∈ X, e.op = 0 := by
  unfold vflat at h
  rw [Bool.and_eq_true] at h
  have hf : flatE X = true := by first | exact h.1 | exact h.2
  unfold flatE at hf
  rw [List.all_eq_true] at hf
  exact fun e he => of_decide_eq_true (hf e he)
theorem step_set {e : Ent} (h : e.op = 0) (cur : Option ByteArray) : stepV cur e = some e.v := by
  unfold stepV
  rw [if_pos h]
theorem told_undo {N H : List Ent} (hN : vflat N = true) (hH : vflat H = true) (hU : vlayer (patchR N H) = true) (s k : ByteArray) : toldV [patchR N H, N] s k = toldV [H] s k := by
  have dN := vlayer_dist (vflat_vlayer hN)
  have dH := vlayer_dist (vflat_vlayer hH)
  rw [told_two _ _ (vlayer_dist hU), told_one _ dN, told_one _ dH, patch_find N H dH]
  cases hb : H.find? (fun x => x.of s k) with
  | some e =>
    have hem := List.mem_of_find?_eq_some hb
    have hep : e.of s k = true := by have h9 := List.find?_some hb; exact h9
    obtain ⟨e1, e2⟩ := (of_iff e s k).1 hep
    simp only []
    rw [step_set (flat_op hH e hem)]
    have hl : lastE N e.s e.k = N.find? (fun x => x.of s k) := by rw [find_last N dN, e1, e2]
    unfold newIn
    rw [hl]
    cases hx : N.find? (fun x => x.of s k) with
    | none => simp [step_set (flat_op hH e hem)]
    | some t =>
      have htm := List.mem_of_find?_eq_some hx
      simp only []
      by_cases hv : (t.v.toList == e.v.toList) = true
      · have hve : t.v = e.v := toList_inj (by simpa using hv)
        rw [if_neg (by rw [hv]; simp)]
        simp only []
        rw [step_set (flat_op hN t htm), hve]
      · rw [if_pos (by simpa using hv)]
        simp only []
        rw [step_set (flat_op hH e hem)]
  | none =>
    simp only []
    cases hx : N.find? (fun x => x.of s k) with
    | none => rfl
    | some t => rfl
theorem findU_dist : ∀ (es : List Ent), distE es = true → ∀ e ∈ es, es.find? (fun x => x.of e.s e.k) = some e := by
  intro es
  induction es with
  | nil => intro _ e he; cases he
  | cons a t ih =>
    intro h e he
    rw [distE, Bool.and_eq_true] at h
    rcases List.mem_cons.1 he with rfl | he
    · rw [List.find?_cons_of_pos (p := fun x : Ent => x.of e.s e.k) ((of_iff e e.s e.k).2 ⟨rfl, rfl⟩)]
    · have h1 := h.1
      rw [List.all_eq_true] at h1
      have h2 := h1 e he
      rw [List.find?_cons_of_neg (p := fun x : Ent => x.of e.s e.k) (by
        intro h3
        rw [h3] at h2
        cases h2)]
      exact ih h.2 e he
theorem same_half {X H : List Ent} (hX : vflat X = true) (hH : vflat H = true) (h : ∀ s k, toldV [X] s k = toldV [H] s k) : ∀ e ∈ X, e ∈ H := fun e he => by
  have h1 := h e.s e.k
  rw [told_one _ (vlayer_dist (vflat_vlayer hX)), told_one _ (vlayer_dist (vflat_vlayer hH)), findU_dist X (vlayer_dist (vflat_vlayer hX)) e he] at h1
  simp only [] at h1
  rw [step_set (flat_op hX e he)] at h1
  cases hb : H.find? (fun x => x.of e.s e.k) with
  | none => rw [hb] at h1; cases h1
  | some y =>
    rw [hb] at h1
    have hym := List.mem_of_find?_eq_some hb
    have hyp : y.of e.s e.k = true := by have h9 := List.find?_some hb; exact h9
    obtain ⟨y1, y2⟩ := (of_iff y e.s e.k).1 hyp
    simp only [] at h1
    rw [step_set (flat_op hH y hym)] at h1
    injection h1 with h1
    have hy0 := flat_op hH y hym
    have he0 := flat_op hX e he
    obtain ⟨ys, yk, yo, yv⟩ := y
    obtain ⟨es, ek, eo, ev⟩ := e
    simp only at y1 y2 h1 hy0 he0
    subst y1 y2 h1 hy0 he0
    exact hym
theorem same_told {X H : List Ent} (hX : vflat X = true) (hH : vflat H = true) (h : ∀ s k, toldV [X] s k = toldV [H] s k) : sameL X H = true := by
  unfold sameL
  rw [vflat_vlayer hX, vflat_vlayer hH]
  exact sameE_of (vlayer_keysU (vflat_vlayer hX)) (vlayer_keysU (vflat_vlayer hH)) (fun e => ⟨same_half hX hH h e, same_half hH hX (fun s k => (h s k).symm) e⟩)
end Go.Proofs.YtcecjdjfbgmogaaDoor
namespace Go.Proofs.YtcecjdjfbgmogaaDoor
open Go.RowKit

set_option maxRecDepth 100000 in
set_option maxHeartbeats 1000000 in
theorem equalLayer_any (A B : Option Addr) (c d : Nat) (ls : List Ent) (w : World) (hn : ls.length ≤ maxLen) (hA : EntsAt w A ls) (hB : EntsAt w B ls) :
    Calls Tryd.prog 11 #[.agg #[.slice A ls.length c], .agg #[.slice B ls.length d]] w fun e w' => e = .returned (.bool true) ∧ Grows w w' := by
  have HA := Lib.hid hA
  have HB := Lib.hid hB
  clear hA hB
  obtain ⟨n, hnn⟩ : ∃ n, ls.length = n := ⟨_, rfl⟩
  rw [hnn] at hn
  rw [hnn]
  have HN := Lib.hid hnn
  clear hnn
  unfold maxLen at hn
  go_enter Tryd.func11, Tryd.ntmps11
  go_wp2
  go_loopw [5] (fun i wr => ∃ (k : Nat), k ≤ n ∧ i = .int .i64 k ∧ Hid (Grows ((w.alloc (lbox A n c)).alloc (lbox B n d)) wr)) (fun i _ => n - (intOf i).toNat)
  case atStart => exact ⟨0, Nat.zero_le _, rfl, Grows.refl _⟩
  case round =>
    obtain ⟨k, hk, rfl, HG⟩ := hrel
    have hx : wr.cell? ⟨w.heap.size, 0, none⟩ = some (.slice A n c) := (HG.out.cell (p := ⟨w.heap.size, 0, none⟩) (by simp; omega)).trans (by simp [lbox])
    have hy : wr.cell? ⟨w.heap.size + 1, 0, none⟩ = some (.slice B n d) := (HG.out.cell (p := ⟨w.heap.size + 1, 0, none⟩) (by simp)).trans (by simp [lbox])
    have HGw : Hid (Grows w wr) := (((Grows.refl _).alloc _).alloc _).trans HG.out
    by_cases hlt : k < n
    · obtain ⟨b, o, rfl, hb, hc⟩ := HA.out (by rw [HN.out]; omega)
      obtain ⟨b2, o2, rfl, hb2, hc2⟩ := HB.out (by rw [HN.out]; omega)
      have hk2 : k < ls.length := by rw [HN.out]; exact hlt
      obtain ⟨l, hl⟩ : ∃ l, ls[k] = l := ⟨_, rfl⟩
      have hat := (hc k hk2).keep hb HGw.out
      have hat2 := (hc2 k hk2).keep hb2 HGw.out
      rw [hl] at hat hat2
      obtain ⟨c0, c1, c2, c3⟩ := hat
      obtain ⟨d0, d1, d2, d3⟩ := hat2
      have hs := neEnt l l
      rw [Ent.same_self] at hs
      unfold Ent.agg at hs
      clear hl hc hc2
      go_wp2_with fail
      go_quiet (fail)
      clear hs
      go_wp2
      go_roundw
      case rel => exact ⟨k + 1, by omega, by go_num, HG.out.drewN _⟩
      case measure => simp [intOf]; omega
    · go_wp2
      go_ret
      exact ⟨rfl, HGw.out⟩

theorem equalLayer_own (v u : Value) (b1 b2 : Nat) (xs : List Ent) (w : World) (hn : xs.length ≤ 1048576) (h1 : OwnE w b1 v xs) (h2 : OwnE w b2 u xs) :
    Calls Tryd.prog 11 #[.agg #[v], .agg #[u]] w fun e w' => e = .returned (.bool true) ∧ Grows w w' := by
  obtain ⟨A, c, rfl, hA⟩ := h1.form
  obtain ⟨B, d, rfl, hB⟩ := h2.form
  exact equalLayer_any A B c d xs w (by unfold maxLen; omega) hA hB
end Go.Proofs.YtcecjdjfbgmogaaDoor
namespace Go.Proofs.YtcecjdjfbgmogaaDoor
open Go.RowKit

def TwoFl (g : Nat) (w : World) (e : Ending) (w' : World) : Prop := ∃ (v : Value) (K : List Ent) (u : Value) (L : List Ent), e = .returned (.tuple #[.agg #[v], .agg #[u]]) ∧ (ShortE K ∧ K.length ≤ 101) ∧ (ShortE L ∧ L.length ≤ 104) ∧ OwnE w' w.heap.size v K ∧ OwnE w' w.heap.size u L ∧ w.grownBy w' (some g)

set_option maxRecDepth 100000 in
set_option maxHeartbeats 8000000 in
theorem twoFlats_any (g : Nat) (A1 : Option Addr) (n1 c1 p : Nat) (w : World) (hp : p ≤ 20000) (hn1 : n1 ≤ 2000) (h : Rd w g A1 n1 c1 p) :
    Calls Tryd.prog 37 #[.pointer (some ⟨g, 0, none⟩)] w (TwoFl g w) := by
  have hgl := h.lt
  have R1 : Hid (Rd ((w.alloc (.cells #[.slice none 0 0] 25)).alloc (.cells #[.slice none 0 0] 25)) g A1 n1 c1 p) := h.keep (((Grows.refl w).alloc _).alloc _)
  have Z1 : Hid (Box ((w.alloc (.cells #[.slice none 0 0] 25)).alloc (.cells #[.slice none 0 0] 25)) w.heap.size (.slice none 0 0) 25) := row_grow (heap_alloc_new w _) ((Grows.refl _).alloc _)
  have V1 : Hid (Box ((w.alloc (.cells #[.slice none 0 0] 25)).alloc (.cells #[.slice none 0 0] 25)) (w.heap.size + 1) (.slice none 0 0) 25) := alloc_new2 w _ _
  have G1 : Hid (w.grownBy ((w.alloc (.cells #[.slice none 0 0] 25)).alloc (.cells #[.slice none 0 0] 25)) (some g)) := gb_of (((Grows.refl w).alloc _).alloc _)
  clear h
  go_enter Tryd.func37, Tryd.ntmps37
  go_upto_region 1 with (fail)
  obtain ⟨w1, hw1⟩ : ∃ w1, (w.alloc (.cells #[.slice none 0 0] 25)).alloc (.cells #[.slice none 0 0] 25) = w1 := ⟨_, rfl⟩
  rw [hw1] at R1 Z1 V1 G1 ⊢
  clear hw1
  have S1 : w.heap.size + 1 < w1.heap.size := V1.out.lt
  go_wp2_with fail
  refine (someFlat_any g A1 n1 c1 p _ (by omega) hn1 R1.out).mono ?_
  rintro e w2 ⟨v, K, rfl, hS, hK, hO, q2, a2, b2, r2, k2⟩
  have hgv : ∀ k, v.ownBlock = some k → k ≠ g ∧ k < w2.heap.size := fun k hk => by have h1 := (hO.lt k hk).1; have h3 := (hO.lt k hk).2; omega
  have Z2 : Hid (Box w2 w.heap.size (.slice none 0 0) 25) := row_keep Z1.out k2 (by omega)
  have V2 : Hid (Box w2 (w.heap.size + 1) (.slice none 0 0) 25) := row_keep V1.out k2 (by omega)
  have R2 := Lib.hid r2
  have O2 : Hid (OwnE w2 (w.heap.size + 2) v K) := hO.less (by omega)
  have G2 : Hid (w.grownBy w2 (some g)) := G1.out.trans k2
  have SS := Lib.hid hS
  have S2 : w.heap.size + 1 < w2.heap.size := V2.out.lt
  clear hS hO r2 k2 Z1 V1 R1 G1
  obtain ⟨A0, c0, rfl, hc0, _⟩ := OwnE.formC O2.out
  obtain ⟨m, hm⟩ : ∃ m, K.length = m := ⟨_, rfl⟩
  rw [hm] at O2 hgv hc0 ⊢
  have HM := Lib.hid hm
  have hmK : m ≤ 101 := by omega
  clear hm
  have X3 : Hid (Box (w2.alloc (.cells #[.slice A0 m c0] 25)) w2.heap.size (.slice A0 m c0) 25) := heap_alloc_new w2 _
  have Z3 := Lib.hid (Z2.out.keep ((Grows.refl w2).alloc (.cells #[.slice A0 m c0] 25)))
  have V3 := Lib.hid (V2.out.keep ((Grows.refl w2).alloc (.cells #[.slice A0 m c0] 25)))
  have O3 := Lib.hid (O2.out.keep ((Grows.refl w2).alloc (.cells #[.slice A0 m c0] 25)))
  have R3 := Lib.hid (R2.out.keep ((Grows.refl w2).alloc (.cells #[.slice A0 m c0] 25)))
  have G3 : Hid (w.grownBy (w2.alloc (.cells #[.slice A0 m c0] 25)) (some g)) := gb_grows G2.out ((Grows.refl _).alloc _)
  have HGV := Lib.hid hgv
  clear hgv
  go_upto_region 2 with (fail)
  obtain ⟨w3, hw3⟩ : ∃ w3, w2.alloc (.cells #[.slice A0 m c0] 25) = w3 := ⟨_, rfl⟩
  have hs3 : w3.heap.size = w2.heap.size + 1 := by rw [← hw3]; exact World.size_alloc _ _
  rw [hw3] at X3 Z3 V3 O3 R3 G3 ⊢
  clear hw3 Z2 V2 O2 R2 G2
  go_wp2_with fail
  refine (pick_any 3 g A1 n1 c1 q2 _ (by omega) (by omega) (by omega) hn1 R3.out).mono ?_
  rintro e w4 ⟨x, rfl, hx0, hx1, r4, k4⟩
  have hgw2 : g < w2.heap.size := by omega
  have X4 := Lib.hid (X3.out.far k4 (by intro e; injection e with e; omega))
  have Z4 := Lib.hid (Z3.out.far k4 (by intro e; injection e with e; omega))
  have V4 := Lib.hid (V3.out.far k4 (by intro e; injection e with e; omega))
  have O4 := Lib.hid (O3.out.far k4 (fun k hk e => by injection e with e; exact (HGV.out k hk).1 e.symm))
  have R4 := Lib.hid r4
  have G4 : Hid (w.grownBy w4 (some g)) := G3.out.trans k4
  clear r4 k4 hx1 X3 Z3 V3 O3 R3 G3
  have hszi : w2.heap.size < w4.heap.size := X4.out.lt
  have HEA := Lib.hid (fun w' (gg : Grows w4 w') => (O4.out.keep gg).at_.2)
  by_cases hx : 0 < x
  · go_wp2_with fail
    have hx4 := X4.out.cell
    have HCH := Lib.hid (changed_any g A1 n1 c1 (q2 + 1) A0 c0 K w4.drew (by omega) hn1 (R4.out.keep (Grows.refl w4).drew) SS.out hK (HEA.out _ (Grows.refl w4).drew))
    rw [HM.out] at HCH
    go_region_held3 (fun w' => w'.cell? ⟨w2.heap.size, 0, none⟩ = some (.slice A0 m c0)) (first | exact hx4 | exact x1 | exact xa | exact xb | go_keep) (first | (go_at_call 50; have HA1 := HCH.out; refine HA1.mono ?_; rintro e w9 ⟨u, L, rfl, hS9, hL9, hO9, q9, a9, b9, r9, k9'⟩; clear HA1; have k9 : Hid (w4.grownBy w9 (some g)) := (gb_of (Grows.refl w4).drew).trans k9'; clear k9' r9; obtain ⟨A9, n9, c9, hu9⟩ := OwnE.form3 hO9; subst hu9; have HS9 := Lib.hid hS9; have HO9 := Lib.hid hO9; clear hS9 hO9; have X9 := Lib.hid (X4.out.far k9.out (by intro e; injection e with e; omega)); have Z9 := Lib.hid (Z4.out.far k9.out (by intro e; injection e with e; omega)); have V9 := Lib.hid (V4.out.far k9.out (by intro e; injection e with e; omega)); have Za := Lib.hid (Z9.out.set_ (.slice A0 m c0)); have Va := Lib.hid (V9.out.far (gb_set (World.grownBy.refl w9 (some w.heap.size)) 0 (.slice A0 m c0)) (by intro e; injection e with e; omega)); have Xa := Lib.hid (X9.out.far (gb_set (World.grownBy.refl w9 (some w.heap.size)) 0 (.slice A0 m c0)) (by intro e; injection e with e; omega)); have Xb := Lib.hid (Xa.out.far (gb_set (World.grownBy.refl _ (some (w.heap.size + 1))) 0 (.slice A9 n9 c9)) (by intro e; injection e with e; omega)); have z0 := Z9.out.cell; have zf := Z9.out.free; have v0 := Va.out.cell; have vf := Va.out.free; have x1 := X9.out.cell; have xa := Xa.out.cell; have xb := Xb.out.cell))
    clear x1 xa xb z0 zf v0 vf hx4
    have OK9 := Lib.hid (O4.out.far k9.out (fun k hk e => by injection e with e; exact (HGV.out k hk).1 e.symm))
    have G9 : Hid (w.grownBy w9 (some g)) := G4.out.trans k9.out
    have hn1' : ((Value.slice A0 m c0).ownBlock ≠ some w.heap.size) := fun e => by have := (OK9.out.lt _ e).1; omega
    have hn2' : ((Value.slice A0 m c0).ownBlock ≠ some (w.heap.size + 1)) := fun e => by have := (OK9.out.lt _ e).1; omega
    have hn3' : ((Value.slice A9 n9 c9).ownBlock ≠ some w.heap.size) := fun e => by have := (HO9.out.lt _ e).1; have h9 : w4.drew.heap.size = w4.heap.size := rfl; omega
    have hn4' : ((Value.slice A9 n9 c9).ownBlock ≠ some (w.heap.size + 1)) := fun e => by have := (HO9.out.lt _ e).1; have h9 : w4.drew.heap.size = w4.heap.size := rfl; omega
    have OKf := Lib.hid (((OK9.out.setFar (i := 0) hn1' (.slice A0 m c0)).setFar (i := 0) hn2' (.slice A9 n9 c9)).less (show w.heap.size ≤ w.heap.size + 2 by omega))
    have OLf := Lib.hid (((HO9.out.setFar (i := 0) hn3' (.slice A0 m c0)).setFar (i := 0) hn4' (.slice A9 n9 c9)).less (show w.heap.size ≤ w4.drew.heap.size by have h9 : w4.drew.heap.size = w4.heap.size := rfl; omega))
    have GF : Hid (w.grownBy ((w9.setCell ⟨w.heap.size, 0, none⟩ (.slice A0 m c0)).setCell ⟨w.heap.size + 1, 0, none⟩ (.slice A9 n9 c9)) (some g)) := gb_new (gb_new G9.out (Nat.le_refl _) 0 _) (Nat.le_succ _) 0 _
    have ZF := Lib.hid (Za.out.far (gb_set (World.grownBy.refl _ (some (w.heap.size + 1))) 0 (.slice A9 n9 c9)) (by intro e; injection e with e; omega))
    have VF := Lib.hid (Va.out.set_ (.slice A9 n9 c9))
    obtain ⟨wf, hwf⟩ : ∃ wf, (w9.setCell ⟨w.heap.size, 0, none⟩ (.slice A0 m c0)).setCell ⟨w.heap.size + 1, 0, none⟩ (.slice A9 n9 c9) = wf := ⟨_, rfl⟩
    rw [hwf] at OKf OLf GF ZF VF ⊢
    clear hwf
    have hz := ZF.out.cell
    have hv := VF.out.cell
    go_wp2
    refine bodyPost_ret (v := .tuple #[.agg #[.slice A0 m c0], .agg #[.slice A9 n9 c9]]) (by simp [results, Tryd.results37, go_sem, hz, hv]) rfl ?_
    exact ⟨_, K, _, L, rfl, ⟨SS.out, hK⟩, ⟨HS9.out, hL9⟩, OKf.out, OLf.out, GF.out⟩
  · have hx2 : ¬ 0 < x := hx
    go_wp2_with fail
    have hx4 := X4.out.cell
    go_region_held3 (fun w' => w'.cell? ⟨w2.heap.size, 0, none⟩ = some (.slice A0 m c0)) (first | exact hx4 | exact x1 | exact xa | exact xb | go_keep) (first | (go_at_call 65; have HA1 := someFlat_any g A1 n1 c1 (q2 + 1) w4.drew (by omega) hn1 (R4.out.keep (Grows.refl w4).drew); refine HA1.mono ?_; rintro e w9 ⟨u, L, rfl, hS9, hL9, hO9, q9, a9, b9, r9, k9'⟩; clear HA1; have k9 : Hid (w4.grownBy w9 (some g)) := (gb_of (Grows.refl w4).drew).trans k9'; clear k9' r9; obtain ⟨A9, n9, c9, hu9⟩ := OwnE.form3 hO9; subst hu9; have HS9 := Lib.hid hS9; have HO9 := Lib.hid hO9; clear hS9 hO9; have X9 := Lib.hid (X4.out.far k9.out (by intro e; injection e with e; omega)); have Z9 := Lib.hid (Z4.out.far k9.out (by intro e; injection e with e; omega)); have V9 := Lib.hid (V4.out.far k9.out (by intro e; injection e with e; omega)); have Za := Lib.hid (Z9.out.set_ (.slice A0 m c0)); have Va := Lib.hid (V9.out.far (gb_set (World.grownBy.refl w9 (some w.heap.size)) 0 (.slice A0 m c0)) (by intro e; injection e with e; omega)); have Xa := Lib.hid (X9.out.far (gb_set (World.grownBy.refl w9 (some w.heap.size)) 0 (.slice A0 m c0)) (by intro e; injection e with e; omega)); have Xb := Lib.hid (Xa.out.far (gb_set (World.grownBy.refl _ (some (w.heap.size + 1))) 0 (.slice A9 n9 c9)) (by intro e; injection e with e; omega)); have z0 := Z9.out.cell; have zf := Z9.out.free; have v0 := Va.out.cell; have vf := Va.out.free; have x1 := X9.out.cell; have xa := Xa.out.cell; have xb := Xb.out.cell))
    clear x1 xa xb z0 zf v0 vf hx4
    have OK9 := Lib.hid (O4.out.far k9.out (fun k hk e => by injection e with e; exact (HGV.out k hk).1 e.symm))
    have G9 : Hid (w.grownBy w9 (some g)) := G4.out.trans k9.out
    have hn1' : ((Value.slice A0 m c0).ownBlock ≠ some w.heap.size) := fun e => by have := (OK9.out.lt _ e).1; omega
    have hn2' : ((Value.slice A0 m c0).ownBlock ≠ some (w.heap.size + 1)) := fun e => by have := (OK9.out.lt _ e).1; omega
    have hn3' : ((Value.slice A9 n9 c9).ownBlock ≠ some w.heap.size) := fun e => by have := (HO9.out.lt _ e).1; have h9 : w4.drew.heap.size = w4.heap.size := rfl; omega
    have hn4' : ((Value.slice A9 n9 c9).ownBlock ≠ some (w.heap.size + 1)) := fun e => by have := (HO9.out.lt _ e).1; have h9 : w4.drew.heap.size = w4.heap.size := rfl; omega
    have OKf := Lib.hid (((OK9.out.setFar (i := 0) hn1' (.slice A0 m c0)).setFar (i := 0) hn2' (.slice A9 n9 c9)).less (show w.heap.size ≤ w.heap.size + 2 by omega))
    have OLf := Lib.hid (((HO9.out.setFar (i := 0) hn3' (.slice A0 m c0)).setFar (i := 0) hn4' (.slice A9 n9 c9)).less (show w.heap.size ≤ w4.drew.heap.size by have h9 : w4.drew.heap.size = w4.heap.size := rfl; omega))
    have GF : Hid (w.grownBy ((w9.setCell ⟨w.heap.size, 0, none⟩ (.slice A0 m c0)).setCell ⟨w.heap.size + 1, 0, none⟩ (.slice A9 n9 c9)) (some g)) := gb_new (gb_new G9.out (Nat.le_refl _) 0 _) (Nat.le_succ _) 0 _
    have ZF := Lib.hid (Za.out.far (gb_set (World.grownBy.refl _ (some (w.heap.size + 1))) 0 (.slice A9 n9 c9)) (by intro e; injection e with e; omega))
    have VF := Lib.hid (Va.out.set_ (.slice A9 n9 c9))
    obtain ⟨wf, hwf⟩ : ∃ wf, (w9.setCell ⟨w.heap.size, 0, none⟩ (.slice A0 m c0)).setCell ⟨w.heap.size + 1, 0, none⟩ (.slice A9 n9 c9) = wf := ⟨_, rfl⟩
    rw [hwf] at OKf OLf GF ZF VF ⊢
    clear hwf
    have hz := ZF.out.cell
    have hv := VF.out.cell
    go_wp2
    refine bodyPost_ret (v := .tuple #[.agg #[.slice A0 m c0], .agg #[.slice A9 n9 c9]]) (by simp [results, Tryd.results37, go_sem, hz, hv]) rfl ?_
    exact ⟨_, K, _, L, rfl, ⟨SS.out, hK⟩, ⟨HS9.out, by omega⟩, OKf.out, OLf.out, GF.out⟩
end Go.Proofs.YtcecjdjfbgmogaaDoor
namespace Go.Proofs.YtcecjdjfbgmogaaDoor
open Go.RowKit

theorem inP_iff {bs : List Ent} (hb : vlayer bs = true) (e : Ent) : inE bs e = true ↔ e ∈ bs := by
  constructor
  · intro h
    unfold inE at h
    split at h
    · rename_i x hx
      rw [Bool.and_eq_true] at h
      have h2 := h.2
      unfold Ent.same at h2
      simp only [Bool.and_eq_true, beq_iff_eq] at h2
      obtain ⟨h1, h3, h4, h5⟩ := h2
      have hxe : x = e := by
        obtain ⟨a1, a2, a3, a4⟩ := x
        obtain ⟨b1, b2, b3, b4⟩ := e
        simp only at h1 h3 h4 h5
        rw [toList_inj h1, toList_inj h3, h4, toList_inj h5]
      rw [← hxe]
      exact List.mem_of_getElem? hx
    · cases h
  · exact fun h => inE_mem (vlayer_keysU hb) h
theorem lastQ {H : List Ent} (hH : vflat H = true) {e : Ent} (he : e ∈ H) : lastE H e.s e.k = some e := by
  have d := vlayer_dist (vflat_vlayer hH)
  rw [find_last H d]
  exact findU_dist H d e he
theorem newP_self {H : List Ent} (hH : vflat H = true) {e : Ent} (he : e ∈ H) : newIn H e = false := by
  unfold newIn
  rw [lastQ hH he]
  simp
theorem freshP_self {H : List Ent} {e : Ent} (he : e ∈ H) : freshIn H e = false := by
  unfold freshIn
  have h : (H.any fun y => y.of e.s e.k) = true := List.any_eq_true.2 ⟨e, he, (of_iff e e.s e.k).2 ⟨rfl, rfl⟩⟩
  rw [h]
  rfl
theorem patchR_nil {H W : List Ent} (h1 : ∀ e ∈ H, freshIn W e = false) (h2 : ∀ e ∈ W, newIn H e = false) : patchR H W = [] := by
  unfold patchR
  rw [List.filter_eq_nil_iff.2 (fun e he => by rw [h1 e he]; simp), List.filter_eq_nil_iff.2 (fun e he => by rw [h2 e he]; simp)]
  rfl
theorem patch_self {H : List Ent} (hH : vflat H = true) : patchB H H = true ∧ patchL H H = [] := by
  have h : patchR H H = [] := patchR_nil (fun e he => freshP_self he) (fun e he => newP_self hH he)
  obtain ⟨a, b⟩ := patchL_yes hH hH
  rw [a, b, h]
  exact ⟨by decide +kernel, by decide +kernel⟩
theorem place_eq {W : List Ent} (hW : vflat W = true) {a b : Ent} (ha : a ∈ W) (hb : b ∈ W) (h1 : a.s = b.s) (h2 : a.k = b.k) : a = b := by
  have x := lastQ hW ha
  have y := lastQ hW hb
  rw [h1, h2, y] at x
  injection x with x
  exact x.symm
theorem patch_empty {H W : List Ent} (hH : vflat H = true) (hW : vflat W = true) : patchR H W = [] ↔ sameL H W = true := by
  constructor
  · intro h
    unfold patchR at h
    obtain ⟨a1, a2⟩ := List.append_eq_nil_iff.1 h
    rw [List.map_eq_nil_iff, List.filter_eq_nil_iff] at a1
    rw [List.filter_eq_nil_iff] at a2
    have hWH : ∀ e ∈ W, e ∈ H := fun e he => by
      have h3 := a2 e he
      unfold newIn at h3
      cases hl : lastE H e.s e.k with
      | none => rw [hl] at h3; exact absurd rfl h3
      | some t =>
        rw [hl] at h3
        obtain ⟨m1, m2, m3⟩ := lastE_mem hl
        have hv : t.v = e.v := toList_inj (by simpa using h3)
        have o1 := vflat_op hH t m1
        have o2 := vflat_op hW e he
        obtain ⟨t1, t2, t3, t4⟩ := t
        obtain ⟨es, ek, eo, ev⟩ := e
        simp only at m2 m3 hv o1 o2
        subst m2 m3 hv o1 o2
        exact m1
    have hHW : ∀ e ∈ H, e ∈ W := fun e he => by
      have h3 := a1 e he
      unfold freshIn at h3
      have h4 : (W.any fun y => y.of e.s e.k) = true := by simpa using h3
      obtain ⟨y, hy, h5⟩ := List.any_eq_true.1 h4
      obtain ⟨e1, e2⟩ := (of_iff y e.s e.k).1 h5
      rw [← place_eq hH (hWH y hy) he e1 e2]
      exact hy
    unfold sameL
    rw [vflat_vlayer hH, vflat_vlayer hW]
    exact sameE_of (vlayer_keysU (vflat_vlayer hH)) (vlayer_keysU (vflat_vlayer hW)) (fun e => ⟨hHW e, hWH e⟩)
  · intro h
    unfold sameL sameE at h
    rw [Bool.and_eq_true, Bool.and_eq_true, Bool.and_eq_true, decide_eq_true_iff, List.all_eq_true] at h
    obtain ⟨_, _, hl, hin⟩ := h
    have hHW : ∀ e ∈ H, e ∈ W := fun e he => (inP_iff (vflat_vlayer hW) e).1 (hin e he)
    have hWH : ∀ e ∈ W, e ∈ H := fun e he => by
      by_cases hm : e.key ∈ H.map Ent.key
      · obtain ⟨x, hx, hk⟩ := List.mem_map.1 hm
        obtain ⟨e1, e2⟩ := key_inj hk
        rw [← place_eq hW (hHW x hx) he e1 e2]
        exact hx
      · have hn : (e.key :: H.map Ent.key).Nodup := List.nodup_cons.2 ⟨hm, vlayer_keysU (vflat_vlayer hH)⟩
        have h9 := len_le _ (W.map Ent.key) hn (fun k hk => by
          rcases List.mem_cons.1 hk with h1 | h1
          · rw [h1]; exact List.mem_map.2 ⟨e, he, rfl⟩
          · obtain ⟨x, hx, hk2⟩ := List.mem_map.1 h1
            exact List.mem_map.2 ⟨x, hHW x hx, hk2⟩)
        simp only [List.length_cons, List.length_map] at h9
        omega
    refine patchR_nil (fun e he => freshP_self (hHW e he)) (fun e he => newP_self hH (hWH e he))
theorem patch_facts {H W : List Ent} (h : patchB H W = true) : patchB H H = true ∧ patchL H H = [] ∧ ((decide ((patchL H W).length = 0)) == sameL H W) = true ∧ vlayer (patchR H W) = true ∧ patchL H W = patchR H W ∧ vflat H = true ∧ vflat W = true := by
  unfold patchB at h
  rw [Bool.and_eq_true, Bool.and_eq_true] at h
  obtain ⟨h1, h2, h3⟩ := h
  obtain ⟨a, b⟩ := patch_self h1
  have hu : patchL H W = patchR H W := by
    rw [(patchL_yes h1 h2).1]
    unfold chkE
    rw [if_pos h3]
  refine ⟨a, b, ?_, h3, hu, h1, h2⟩
  rw [hu, beq_iff_eq, Bool.eq_iff_iff, decide_eq_true_iff, List.length_eq_zero_iff]
  exact patch_empty h1 h2
end Go.Proofs.YtcecjdjfbgmogaaDoor
namespace Go.Proofs.YtcecjdjfbgmogaaDoor
open Go.RowKit

theorem findN_flat (V : PV) (s k : ByteArray) : ∀ F : List Ent, (F.filterMap (flatOne V)).find? (fun x => x.of s k) = if (F.any fun x => x.of s k) = true then (V s k).map (fun v => (⟨s, k, 0, v⟩ : Ent)) else none := by
  intro F
  induction F with
  | nil => rfl
  | cons e t ih =>
    have hfl : flatOne V e = (V e.s e.k).map fun v => (⟨e.s, e.k, 0, v⟩ : Ent) := rfl
    by_cases he : e.of s k = true
    · obtain ⟨h1, h2⟩ := (of_iff e s k).1 he
      rw [if_pos (by rw [List.any_cons, he]; rfl)]
      cases hV : V s k with
      | none =>
        have h3 : flatOne V e = none := by rw [hfl, h1, h2, hV]; rfl
        rw [List.filterMap_cons_none h3, ih, hV]
        split <;> rfl
      | some v =>
        have h3 : flatOne V e = some ⟨s, k, 0, v⟩ := by rw [hfl, h1, h2, hV]; rfl
        rw [List.filterMap_cons_some h3, List.find?_cons_of_pos (p := fun x : Ent => x.of s k) ((of_iff _ s k).2 ⟨rfl, rfl⟩)]
        rfl
    · have he' : e.of s k = false := by simpa using he
      have ha : ((e :: t).any fun x => x.of s k) = t.any fun x => x.of s k := by rw [List.any_cons, he', Bool.false_or]
      rw [ha]
      cases hV : V e.s e.k with
      | none =>
        have h3 : flatOne V e = none := by rw [hfl, hV]; rfl
        rw [List.filterMap_cons_none h3, ih]
      | some v =>
        have h3 : flatOne V e = some ⟨e.s, e.k, 0, v⟩ := by rw [hfl, hV]; rfl
        rw [List.filterMap_cons_some h3, List.find?_cons_of_neg (p := fun x : Ent => x.of s k) (by
          intro h4
          have h5 : e.of s k = true := h4
          rw [h5] at he'
          cases he'), ih]
theorem foldN_none (s k : ByteArray) : ∀ (es : List Ent) (V : PV), (es.any fun x => x.of s k) = false → foldV es V s k = V s k := by
  intro es
  induction es with
  | nil => intro V _; rfl
  | cons e t ih =>
    intro V h
    rw [List.any_cons, Bool.or_eq_false_iff] at h
    have h1 : foldV (e :: t) V = foldV t (layV V e) := rfl
    rw [h1, ih _ h.2]
    unfold layV
    rw [if_neg (by rw [h.1]; simp)]
theorem toldN_flat {sl : List (List Ent)} (h : distE (flatR sl) = true) (s k : ByteArray) : toldV [flatR sl] s k = toldV sl s k := by
  rw [told_one _ h]
  have h1 : (flatR sl).find? (fun x => x.of s k) = if ((allE sl).any fun x => x.of s k) = true then (toldV sl s k).map (fun v => (⟨s, k, 0, v⟩ : Ent)) else none := by
    unfold flatR
    rw [findN_flat, firstsE_any]
  rw [h1]
  by_cases ha : ((allE sl).any fun x => x.of s k) = true
  · rw [if_pos ha]
    cases toldV sl s k <;> rfl
  · have ha' : ((allE sl).any fun x => x.of s k) = false := by simpa using ha
    rw [if_neg ha]
    have h2 : toldV sl s k = none := by
      unfold toldV
      rw [foldN_none s k _ _ ha']
      rfl
    rw [h2]
theorem fit104 {K : List Ent} (h : ShortE K) (hK : K.length ≤ 104) : EFit K := by
  refine ⟨by omega, fun i hi => ?_⟩
  obtain ⟨h1, h2, h3, _⟩ := h K[i] (List.getElem_mem hi)
  exact ⟨by omega, by omega, by omega⟩
theorem patch_back {H W : List Ent} (h : patchB H W = true) : (flatB [patchL H W, H] = true → sameL (flatL [patchL H W, H]) W = true) ∧ patchB H H = true ∧ patchL H H = [] ∧ ((decide ((patchL H W).length = 0)) == sameL H W) = true := by
  obtain ⟨a, b, c, d, e, f1, f2⟩ := patch_facts h
  refine ⟨fun q => ?_, a, b, c⟩
  rw [e] at q ⊢
  obtain ⟨q1, q2, q3⟩ := flatB_yes q
  refine same_told (flat_flat q) f2 (fun s k => ?_)
  rw [q3, toldN_flat (vlayer_dist q2), told_undo f1 f2 d]
theorem patchL_fit (xs bs : List Ent) : EFit (patchL xs bs) := by
  unfold patchL
  split
  · rename_i h
    unfold chkE
    split
    · exact patchR_fit (vflat_vlayer h.1) (vflat_vlayer h.2)
    · exact ⟨Nat.zero_le _, fun _ h => absurd h (Nat.not_lt_zero _)⟩
  · exact ⟨Nat.zero_le _, fun _ h => absurd h (Nat.not_lt_zero _)⟩
theorem implPatP_own (v u : Value) (b1 b2 : Nat) (xs bs : List Ent) (w : World) (hf : EFit xs) (hg : EFit bs) (h1 : OwnE w b1 v xs) (h2 : OwnE w b2 u bs) :
    Calls Tryd.prog 9 #[.agg #[v], .agg #[u]] w (ResEB (patchL xs bs) (patchB xs bs) w) := by
  obtain ⟨A, c, rfl, hc, hA⟩ := h1.formC
  obtain ⟨B, d, rfl, hd, hB⟩ := h2.formC
  exact implPat_any A c xs B d bs w hc hd hf hA hg hB
theorem specPatP_own (v u : Value) (b1 b2 : Nat) (xs bs : List Ent) (w : World) (hf : EFit xs) (hg : EFit bs) (h1 : OwnE w b1 v xs) (h2 : OwnE w b2 u bs) :
    Calls Tryd.prog 10 #[.agg #[v], .agg #[u]] w (ResEB (patchL xs bs) (patchB xs bs) w) := by
  obtain ⟨A, c, rfl, hc, hA⟩ := h1.formC
  obtain ⟨B, d, rfl, hd, hB⟩ := h2.formC
  exact specPat_any A c xs B d bs w hc hd hf hA hg hB
theorem implSameP_own (v u : Value) (b1 b2 : Nat) (xs bs : List Ent) (w : World) (hf : EFit xs) (hg : EFit bs) (h1 : OwnE w b1 v xs) (h2 : OwnE w b2 u bs) :
    Calls Tryd.prog 13 #[.agg #[v], .agg #[u]] w fun e w' => e = .returned (.bool (sameL xs bs)) ∧ Grows w w' := by
  obtain ⟨A, c, rfl, hc, hA⟩ := h1.formC
  obtain ⟨B, d, rfl, hd, hB⟩ := h2.formC
  exact implSame_any A c xs B d bs w hf hA hg hB


def DPa (w : World) (e : Ending) (w' : World) : Prop := ∃ (v : Value) (K : List Ent) (u : Value) (L : List Ent), e = .returned (.tuple #[.agg #[v], .agg #[u]]) ∧ (ShortE K ∧ K.length ≤ 101) ∧ (ShortE L ∧ L.length ≤ 104) ∧ OwnE w' w.heap.size v K ∧ OwnE w' w.heap.size u L ∧ Grows w w'
set_option maxRecDepth 100000 in
set_option maxHeartbeats 8000000 in
theorem DrawPatchLayers_any (A : Option Addr) (n c : Nat) (w : World) (hn : n ≤ maxLen) (hc : n ≤ c) (h : BytesAt w A n) :
    Calls Tryd.prog 8 #[.slice A n c] w (DPa w) := by
  have HB := Lib.hid (fun o o2 => h.keep (((Grows.refl w).alloc o).alloc o2))
  clear h
  go_enter Tryd.func8, Tryd.ntmps8
  go_wp2_with fail
  refine (newReader_any A n c _ hn hc (HB.out _ _)).mono ?_
  rintro e w1 ⟨A1, n1, c1, g, rfl, hn1, hg, r1, k1⟩
  have hgw : w.heap.size + 1 < g := by simp at hg; omega
  have Z1 : Hid (Box w1 w.heap.size (.slice none 0 0) 25) := row_grow (row_grow (heap_alloc_new w _) ((Grows.refl _).alloc _)) k1
  have V1 : Hid (Box w1 (w.heap.size + 1) (.slice none 0 0) 25) := row_grow (alloc_new2 w _ _) k1
  have R1 := Lib.hid r1
  have G1 : Hid (Grows w w1) := (((Grows.refl w).alloc _).alloc _).trans k1
  have S1 : w.heap.size + 1 < w1.heap.size := V1.out.lt
  clear r1 k1 hg HB
  go_wp2_with fail
  refine (twoFlats_any g A1 n1 c1 0 _ (by omega) hn1 R1.out).mono ?_
  rintro e w3 ⟨v, K, u, L, rfl, ⟨hS, hK⟩, ⟨hT, hL⟩, hO, hP, k3⟩
  have Z3 : Hid (Box w3 w.heap.size (.slice none 0 0) 25) := row_keep Z1.out k3 (by omega)
  have V3 : Hid (Box w3 (w.heap.size + 1) (.slice none 0 0) 25) := row_keep V1.out k3 (by omega)
  have O3 : Hid (OwnE w3 (w.heap.size + 2) v K) := hO.less (by omega)
  have P3 : Hid (OwnE w3 (w.heap.size + 2) u L) := hP.less (by omega)
  have G3 : Hid (Grows w w3) := G1.out.mark k3 (fun i hi => by injection hi with hi; omega)
  have SS := Lib.hid hS
  have ST := Lib.hid hT
  obtain ⟨A9, n9, c9, rfl⟩ := O3.out.form3
  obtain ⟨A8, n8, c8, rfl⟩ := P3.out.form3
  clear hS hT hO hP k3 Z1 V1 R1 G1
  have z0 := Z3.out.cell
  have zf := Z3.out.free
  have v0 := V3.out.cell
  have vf := V3.out.free
  have HN0 : Hid ((Value.slice A9 n9 c9).ownBlock ≠ some w.heap.size) := fun e => by have := (O3.out.lt _ e).1; omega
  have HN1 : Hid ((Value.slice A9 n9 c9).ownBlock ≠ some (w.heap.size + 1)) := fun e => by have := (O3.out.lt _ e).1; omega
  have HM0 : Hid ((Value.slice A8 n8 c8).ownBlock ≠ some w.heap.size) := fun e => by have := (P3.out.lt _ e).1; omega
  have HM1 : Hid ((Value.slice A8 n8 c8).ownBlock ≠ some (w.heap.size + 1)) := fun e => by have := (P3.out.lt _ e).1; omega
  have F0 : Hid (Box ((w3.setCell ⟨w.heap.size, 0, none⟩ (.slice A9 n9 c9)).setCell ⟨w.heap.size + 1, 0, none⟩ (.slice A8 n8 c8)) w.heap.size (.slice A9 n9 c9) 25) := Box.far (row := some (w.heap.size + 1)) (Z3.out.set_ _) (gb_set (World.grownBy.refl _ _) _ _) (by intro e; injection e with e; omega)
  have F1 : Hid (Box ((w3.setCell ⟨w.heap.size, 0, none⟩ (.slice A9 n9 c9)).setCell ⟨w.heap.size + 1, 0, none⟩ (.slice A8 n8 c8)) (w.heap.size + 1) (.slice A8 n8 c8) 25) := Box.set_ (Box.far (row := some w.heap.size) V3.out (gb_set (World.grownBy.refl _ _) _ _) (by intro e; injection e with e; omega)) _
  have F2 := Lib.hid (((O3.out.setFar (i := 0) HN0.out (.slice A9 n9 c9)).setFar (i := 0) HN1.out (.slice A8 n8 c8)).less (show w.heap.size ≤ w.heap.size + 2 by omega))
  have F3 := Lib.hid (((P3.out.setFar (i := 0) HM0.out (.slice A9 n9 c9)).setFar (i := 0) HM1.out (.slice A8 n8 c8)).less (show w.heap.size ≤ w.heap.size + 2 by omega))
  have F4 : Hid (Grows w ((w3.setCell ⟨w.heap.size, 0, none⟩ (.slice A9 n9 c9)).setCell ⟨w.heap.size + 1, 0, none⟩ (.slice A8 n8 c8))) := (G3.out.setCell (Nat.le_refl _) _).setCell (show w.heap.size ≤ w.heap.size + 1 by omega) _
  go_wp2
  obtain ⟨wf, hwf⟩ : ∃ wf, (w3.setCell ⟨w.heap.size, 0, none⟩ (.slice A9 n9 c9)).setCell ⟨w.heap.size + 1, 0, none⟩ (.slice A8 n8 c8) = wf := ⟨_, rfl⟩
  rw [hwf] at F0 F1 F2 F3 F4 ⊢
  clear hwf z0 zf v0 vf
  have p0 := F0.out.cell
  have p1 := F1.out.cell
  refine bodyPost_ret (v := .tuple #[.agg #[.slice A9 n9 c9], .agg #[.slice A8 n8 c8]]) (by simp [results, Tryd.results8, go_sem, p0, p1]) rfl ?_
  exact ⟨_, K, _, L, rfl, ⟨SS.out, hK⟩, ⟨ST.out, hL⟩, F2.out, F3.out, F4.out⟩
set_option maxRecDepth 100000 in
set_option maxHeartbeats 8000000 in
theorem dPat_any (A : Option Addr) (n c : Nat) (w : World) (hn : n ≤ maxLen) (hc : n ≤ c) (h : BytesAt w A n) :
    Calls Tryd.prog 3 #[.slice A n c] w fun e w' => e = .returned (.bool true) ∧ Below w.heap.size w w' := by
  by_cases hbig : 1048576 < n
  · clear h
    unfold maxLen at hn
    go_enter Tryd.func3, Tryd.ntmps3
    go_wp2
    go_ret
    exact ⟨rfl, (Grows.refl _).below⟩
  · have HD := Lib.hid (DrawPatchLayers_any A n c w hn hc h)
    clear h
    unfold maxLen at hn
    go_enter Tryd.func3, Tryd.ntmps3
    go_wp2_with fail
    refine (HD.out).mono ?_
    rintro e w1 ⟨v, K, u, L, rfl, ⟨hS, hK⟩, ⟨hT, hL⟩, hO, hQ, g1⟩
    obtain ⟨A0, n0, c0, rfl⟩ := hO.form3
    obtain ⟨B0, d0, e0, rfl⟩ := hQ.form3
    have hf := hS.fit hK
    have hg := fit104 hT hL
    have HUB := Lib.hid (fun h => patch_back (H := K) (W := L) h)
    have hfP := patchL_fit K L
    obtain ⟨P, hP⟩ : ∃ P, patchL K L = P := ⟨_, rfl⟩
    obtain ⟨β, hβ⟩ : ∃ β, patchB K L = β := ⟨_, rfl⟩
    obtain ⟨N, hN⟩ : ∃ N, patchL K K = N := ⟨_, rfl⟩
    obtain ⟨γ, hγ⟩ : ∃ γ, patchB K K = γ := ⟨_, rfl⟩
    rw [hP] at HUB hfP
    rw [hβ, hN, hγ] at HUB
    have hfM := flatL_fit [P, K]
    obtain ⟨M, hM⟩ : ∃ M, flatL [P, K] = M := ⟨_, rfl⟩
    obtain ⟨θ, hθ⟩ : ∃ θ, flatB [P, K] = θ := ⟨_, rfl⟩
    obtain ⟨σ, hσ⟩ : ∃ σ, sameL M L = σ := ⟨_, rfl⟩
    obtain ⟨ρ, hρ⟩ : ∃ ρ, sameL K L = ρ := ⟨_, rfl⟩
    rw [hM] at HUB hfM
    rw [hθ, hσ, hρ] at HUB
    have HM1 := Lib.hid (fun (v u : Value) (b1 b2 : Nat) (w2 : World) (h1 : OwnE w2 b1 v K) (h2 : OwnE w2 b2 u L) => implPatP_own v u b1 b2 K L w2 hf hg h1 h2)
    have HM2 := Lib.hid (fun (v u : Value) (b1 b2 : Nat) (w2 : World) (h1 : OwnE w2 b1 v K) (h2 : OwnE w2 b2 u L) => specPatP_own v u b1 b2 K L w2 hf hg h1 h2)
    have HM3 := Lib.hid (fun (v u : Value) (b1 b2 : Nat) (w2 : World) (h1 : OwnE w2 b1 v K) (h2 : OwnE w2 b2 u K) => implPatP_own v u b1 b2 K K w2 hf hf h1 h2)
    have HF1 := Lib.hid (fun (v u : Value) (b d g : Nat) (w2 : World) (h1 : OwnE w2 b v P) (h2 : OwnE w2 d u K) (hc : w2.cell? ⟨g, 0, none⟩ = some v) (hd : w2.cell? ⟨g, 1, none⟩ = some u) (hg2 : g < w2.heap.size) => implFlatten2_own v u b d g P K w2 hfP hf h1 h2 hc hd hg2)
    have HSM := Lib.hid (fun (v u : Value) (b1 b2 : Nat) (w2 : World) (h1 : OwnE w2 b1 v M) (h2 : OwnE w2 b2 u L) => implSameP_own v u b1 b2 M L w2 hfM hg h1 h2)
    have HSK := Lib.hid (fun (v u : Value) (b1 b2 : Nat) (w2 : World) (h1 : OwnE w2 b1 v K) (h2 : OwnE w2 b2 u L) => implSameP_own v u b1 b2 K L w2 hf hg h1 h2)
    rw [hP, hβ] at HM1 HM2
    rw [hN, hγ] at HM3
    rw [hM, hθ] at HF1
    rw [hσ] at HSM
    rw [hρ] at HSK
    unfold ResEB at HM1 HM2 HM3 HF1
    have hP20 : P.length ≤ 1048576 := hfP.1
    have O0_1 := Lib.hid hO
    have L0_1 := Lib.hid hQ
    have T1 : Hid (Grows w1 w1) := Grows.refl _
    have HG1 := Lib.hid g1
    clear hS hT hO hQ g1 hf hg HD hfP hfM hP hβ hN hγ hM hθ hσ hρ
    go_upto_region 4 with (fail)
    obtain ⟨w2, hw2⟩ : ∃ w', w1.alloc (.cells #[.slice A0 n0 c0] 25) = w' := ⟨_, rfl⟩
    have X3_2 : Hid (Box w2 w1.heap.size (.slice A0 n0 c0) 25) := hw2 ▸ heap_alloc_new w1 _
    have gq : Grows w1 w2 := hw2 ▸ (Grows.refl w1).alloc _
    have hs2 : w2.heap.size = w1.heap.size + 1 := by rw [← hw2]; exact World.size_alloc _ _
    have T2 : Hid (Grows w1 w2) := T1.out.trans gq
    have O0_2 := Lib.hid (O0_1.out.keep gq)
    have L0_2 := Lib.hid (L0_1.out.keep gq)
    clear O0_1 L0_1 T1
    clear gq
    obtain ⟨w3, hw3⟩ : ∃ w', w2.alloc (.cells #[.slice B0 d0 e0] 25) = w' := ⟨_, rfl⟩
    have X4_3 : Hid (Box w3 w2.heap.size (.slice B0 d0 e0) 25) := hw3 ▸ heap_alloc_new w2 _
    have gq : Grows w2 w3 := hw3 ▸ (Grows.refl w2).alloc _
    have T3 : Hid (Grows w1 w3) := T2.out.trans gq
    have O0_3 := Lib.hid (O0_2.out.keep gq)
    have L0_3 := Lib.hid (L0_2.out.keep gq)
    have X3_3 := Lib.hid (X3_2.out.keep gq)
    clear O0_2 L0_2 X3_2 T2
    clear gq
    rw [hw2, hw3]
    rw [hs2] at X4_3
    clear hw2 hw3 hs2
    have cX3 := X3_3.out.cell
    have cX4 := X4_3.out.cell
    go_wp2_with fail
    refine (HM1.out _ _ _ _ _ O0_3.out L0_3.out).mono ?_
    rintro e w4 ⟨u, rfl, hu, gq⟩
    clear cX3
    clear cX4
    have T4 : Hid (Grows w1 w4) := T3.out.trans gq
    have O0_4 := Lib.hid (O0_3.out.keep gq)
    have L0_4 := Lib.hid (L0_3.out.keep gq)
    have X3_4 := Lib.hid (X3_3.out.keep gq)
    have X4_4 := Lib.hid (X4_3.out.keep gq)
    clear O0_3 L0_3 X3_3 X4_3 T3
    clear gq
    obtain ⟨AO4, nO4, cO4, hu'⟩ := OwnE.form3 hu
    subst hu'
    have O4_4 := Lib.hid hu
    clear hu
    go_upto_region 5 with (fail)
    have X5_5 : Hid (Box (w4.alloc (.cells #[(.slice AO4 nO4 cO4)] 25)) w4.heap.size (.slice AO4 nO4 cO4) 25) := heap_alloc_new w4 _
    have gq : Grows w4 (w4.alloc (.cells #[(.slice AO4 nO4 cO4)] 25)) := (Grows.refl _).alloc _
    obtain ⟨w5, hw5⟩ : ∃ w', (w4.alloc (.cells #[(.slice AO4 nO4 cO4)] 25)) = w' := ⟨_, rfl⟩
    rw [hw5] at X5_5 gq ⊢
    clear hw5
    have T5 : Hid (Grows w1 w5) := T4.out.trans gq
    have O0_5 := Lib.hid (O0_4.out.keep gq)
    have L0_5 := Lib.hid (L0_4.out.keep gq)
    have X3_5 := Lib.hid (X3_4.out.keep gq)
    have X4_5 := Lib.hid (X4_4.out.keep gq)
    have O4_5 := Lib.hid (O4_4.out.keep gq)
    clear O0_4 L0_4 X3_4 X4_4 O4_4 T4
    clear gq
    obtain ⟨b_X5, hbb⟩ : ∃ b, w4.heap.size = b := ⟨_, rfl⟩
    rw [hbb] at X5_5 ⊢
    clear hbb
    have cX3 := X3_5.out.cell
    have cX4 := X4_5.out.cell
    go_wp2_with fail
    refine (HM2.out _ _ _ _ _ O0_5.out L0_5.out).mono ?_
    rintro e w6 ⟨u, rfl, hu, gq⟩
    clear cX3
    clear cX4
    have T6 : Hid (Grows w1 w6) := T5.out.trans gq
    have O0_6 := Lib.hid (O0_5.out.keep gq)
    have L0_6 := Lib.hid (L0_5.out.keep gq)
    have X3_6 := Lib.hid (X3_5.out.keep gq)
    have X4_6 := Lib.hid (X4_5.out.keep gq)
    have O4_6 := Lib.hid (O4_5.out.keep gq)
    have X5_6 := Lib.hid (X5_5.out.keep gq)
    clear O0_5 L0_5 X3_5 X4_5 O4_5 X5_5 T5
    clear gq
    obtain ⟨AO5, nO5, cO5, hu'⟩ := OwnE.form3 hu
    subst hu'
    have O5_6 := Lib.hid hu
    clear hu
    go_upto_region 6 with (fail)
    have X7_7 : Hid (Box (w6.alloc (.cells #[(.slice AO5 nO5 cO5)] 25)) w6.heap.size (.slice AO5 nO5 cO5) 25) := heap_alloc_new w6 _
    have gq : Grows w6 (w6.alloc (.cells #[(.slice AO5 nO5 cO5)] 25)) := (Grows.refl _).alloc _
    obtain ⟨w7, hw7⟩ : ∃ w', (w6.alloc (.cells #[(.slice AO5 nO5 cO5)] 25)) = w' := ⟨_, rfl⟩
    rw [hw7] at X7_7 gq ⊢
    clear hw7
    have T7 : Hid (Grows w1 w7) := T6.out.trans gq
    have O0_7 := Lib.hid (O0_6.out.keep gq)
    have L0_7 := Lib.hid (L0_6.out.keep gq)
    have X3_7 := Lib.hid (X3_6.out.keep gq)
    have X4_7 := Lib.hid (X4_6.out.keep gq)
    have O4_7 := Lib.hid (O4_6.out.keep gq)
    have X5_7 := Lib.hid (X5_6.out.keep gq)
    have O5_7 := Lib.hid (O5_6.out.keep gq)
    clear O0_6 L0_6 X3_6 X4_6 O4_6 X5_6 O5_6 T6
    clear gq
    obtain ⟨b_X7, hbb⟩ : ∃ b, w6.heap.size = b := ⟨_, rfl⟩
    rw [hbb] at X7_7 ⊢
    clear hbb
    have cX5 := X5_7.out.cell
    have cX7 := X7_7.out.cell
    go_wp2_with fail
    refine (equalLayer_own _ _ _ _ P _ hP20 O4_7.out O5_7.out).mono ?_
    rintro e w8 ⟨rfl, gq⟩
    clear cX5
    clear cX7
    have T8 : Hid (Grows w1 w8) := T7.out.trans gq
    have O0_8 := Lib.hid (O0_7.out.keep gq)
    have L0_8 := Lib.hid (L0_7.out.keep gq)
    have X3_8 := Lib.hid (X3_7.out.keep gq)
    have X4_8 := Lib.hid (X4_7.out.keep gq)
    have O4_8 := Lib.hid (O4_7.out.keep gq)
    have X5_8 := Lib.hid (X5_7.out.keep gq)
    have O5_8 := Lib.hid (O5_7.out.keep gq)
    have X7_8 := Lib.hid (X7_7.out.keep gq)
    clear O0_7 L0_7 X3_7 X4_7 O4_7 X5_7 O5_7 X7_7 T7
    clear gq
    rcases β with _ | _
    · have cX5 := X5_8.out.cell
      have cX7 := X7_8.out.cell
      go_wp2_with fail
      refine (equalLayer_own _ _ _ _ P _ hP20 O4_8.out O5_8.out).mono ?_
      rintro e w9 ⟨rfl, gq⟩
      clear cX5
      clear cX7
      have T9 : Hid (Grows w1 w9) := T8.out.trans gq
      have O0_9 := Lib.hid (O0_8.out.keep gq)
      have L0_9 := Lib.hid (L0_8.out.keep gq)
      have X3_9 := Lib.hid (X3_8.out.keep gq)
      have X4_9 := Lib.hid (X4_8.out.keep gq)
      have O4_9 := Lib.hid (O4_8.out.keep gq)
      have X5_9 := Lib.hid (X5_8.out.keep gq)
      have O5_9 := Lib.hid (O5_8.out.keep gq)
      have X7_9 := Lib.hid (X7_8.out.keep gq)
      clear O0_8 L0_8 X3_8 X4_8 O4_8 X5_8 O5_8 X7_8 T8
      clear gq
      go_wp2
      go_ret
      exact ⟨rfl, (HG1.out.trans T9.out).below⟩
    · clear X7_8 O5_8 HM1 HM2
      obtain ⟨HSB, rfl, rfl, hpe⟩ := HUB.out rfl
      clear HUB
      go_upto_region 8 with (fail)
      have cX5 := X5_8.out.cell
      have cX3 := X3_8.out.cell
      go_wp2_with fail
      refine (HF1.out _ _ _ _ w8.heap.size _ (O4_8.out.keep ((Grows.refl _).alloc _)) (O0_8.out.keep ((Grows.refl _).alloc _)) (by simp) (by simp) (by simp)).mono ?_
      rintro e w9 ⟨u, rfl, hu, gq'⟩
      have gq : Grows w8 w9 := ((Grows.refl _).alloc _).trans gq'
      clear gq'
      clear cX5
      clear cX3
      have T9 : Hid (Grows w1 w9) := T8.out.trans gq
      have O0_9 := Lib.hid (O0_8.out.keep gq)
      have L0_9 := Lib.hid (L0_8.out.keep gq)
      have X3_9 := Lib.hid (X3_8.out.keep gq)
      have X4_9 := Lib.hid (X4_8.out.keep gq)
      have O4_9 := Lib.hid (O4_8.out.keep gq)
      have X5_9 := Lib.hid (X5_8.out.keep gq)
      clear O0_8 L0_8 X3_8 X4_8 O4_8 X5_8 T8
      clear gq
      obtain ⟨AO9, nO9, cO9, hu'⟩ := OwnE.form3 hu
      subst hu'
      have O9_9 := Lib.hid hu
      clear hu
      go_upto_region 9 with (fail)
      have X9_10 : Hid (Box (w9.alloc (.cells #[(.slice AO9 nO9 cO9)] 25)) w9.heap.size (.slice AO9 nO9 cO9) 25) := heap_alloc_new w9 _
      have gq : Grows w9 (w9.alloc (.cells #[(.slice AO9 nO9 cO9)] 25)) := (Grows.refl _).alloc _
      obtain ⟨w10, hw10⟩ : ∃ w', (w9.alloc (.cells #[(.slice AO9 nO9 cO9)] 25)) = w' := ⟨_, rfl⟩
      rw [hw10] at X9_10 gq ⊢
      clear hw10
      have T10 : Hid (Grows w1 w10) := T9.out.trans gq
      have O0_10 := Lib.hid (O0_9.out.keep gq)
      have L0_10 := Lib.hid (L0_9.out.keep gq)
      have X3_10 := Lib.hid (X3_9.out.keep gq)
      have X4_10 := Lib.hid (X4_9.out.keep gq)
      have O4_10 := Lib.hid (O4_9.out.keep gq)
      have X5_10 := Lib.hid (X5_9.out.keep gq)
      have O9_10 := Lib.hid (O9_9.out.keep gq)
      clear O0_9 L0_9 X3_9 X4_9 O4_9 X5_9 O9_9 T9
      clear gq
      obtain ⟨b_X9, hbb⟩ : ∃ b, w9.heap.size = b := ⟨_, rfl⟩
      rw [hbb] at X9_10 ⊢
      clear hbb
      have cX3 := X3_10.out.cell
      go_wp2_with fail
      refine (HM3.out _ _ _ _ _ O0_10.out O0_10.out).mono ?_
      rintro e w11 ⟨u, rfl, hu, gq⟩
      clear cX3
      have T11 : Hid (Grows w1 w11) := T10.out.trans gq
      have O0_11 := Lib.hid (O0_10.out.keep gq)
      have L0_11 := Lib.hid (L0_10.out.keep gq)
      have X3_11 := Lib.hid (X3_10.out.keep gq)
      have X4_11 := Lib.hid (X4_10.out.keep gq)
      have O4_11 := Lib.hid (O4_10.out.keep gq)
      have X5_11 := Lib.hid (X5_10.out.keep gq)
      have O9_11 := Lib.hid (O9_10.out.keep gq)
      have X9_11 := Lib.hid (X9_10.out.keep gq)
      clear O0_10 L0_10 X3_10 X4_10 O4_10 X5_10 O9_10 X9_10 T10
      clear gq
      obtain ⟨AO11, nO11, cO11, hu'⟩ := OwnE.form3 hu
      subst hu'
      have O11_11 := Lib.hid hu
      clear hu
      go_upto_region 10 with (fail)
      have X11_12 : Hid (Box (w11.alloc (.cells #[(.slice AO11 nO11 cO11)] 25)) w11.heap.size (.slice AO11 nO11 cO11) 25) := heap_alloc_new w11 _
      have gq : Grows w11 (w11.alloc (.cells #[(.slice AO11 nO11 cO11)] 25)) := (Grows.refl _).alloc _
      obtain ⟨w12, hw12⟩ : ∃ w', (w11.alloc (.cells #[(.slice AO11 nO11 cO11)] 25)) = w' := ⟨_, rfl⟩
      rw [hw12] at X11_12 gq ⊢
      clear hw12
      have T12 : Hid (Grows w1 w12) := T11.out.trans gq
      have O0_12 := Lib.hid (O0_11.out.keep gq)
      have L0_12 := Lib.hid (L0_11.out.keep gq)
      have X3_12 := Lib.hid (X3_11.out.keep gq)
      have X4_12 := Lib.hid (X4_11.out.keep gq)
      have O4_12 := Lib.hid (O4_11.out.keep gq)
      have X5_12 := Lib.hid (X5_11.out.keep gq)
      have O9_12 := Lib.hid (O9_11.out.keep gq)
      have X9_12 := Lib.hid (X9_11.out.keep gq)
      have O11_12 := Lib.hid (O11_11.out.keep gq)
      clear O0_11 L0_11 X3_11 X4_11 O4_11 X5_11 O9_11 X9_11 O11_11 T11
      clear gq
      obtain ⟨b_X11, hbb⟩ : ∃ b, w11.heap.size = b := ⟨_, rfl⟩
      rw [hbb] at X11_12 ⊢
      clear hbb
      obtain ⟨rfl, _⟩ : nO11 = 0 ∧ True := ⟨O11_12.out.at_.1, trivial⟩
      have hlP : nO4 = P.length := O4_12.out.at_.1
      rw [← hlP] at hpe
      clear hlP
      have hpi : ((((nO4 : Int) == 0) == ρ)) = true := by rw [← hpe]; congr 1; rw [Bool.eq_iff_iff, beq_iff_eq, decide_eq_true_iff]; omega
      clear hpe
      go_wp2_with fail
      rcases θ with _ | _
      · have hz0 : (((0 : Nat) : Int) == 0) = true := rfl
        refine wp_region_M 26 (CellsAre [(⟨b_X9, 0, none⟩, (.slice AO9 nO9 cO9)), (⟨w1.heap.size + 1, 0, none⟩, (.slice B0 d0 e0)), (⟨b_X11, 0, none⟩, (.slice AO11 0 cO11)), (⟨b_X5, 0, none⟩, (.slice AO4 nO4 cO4)), (⟨w1.heap.size, 0, none⟩, (.slice A0 n0 c0))]) (by kernel_rfl) (by kernel_rfl) ⟨X9_12.out.cell, X4_12.out.cell, X11_12.out.cell, X5_12.out.cell, X3_12.out.cell, trivial⟩ (fun hB hS => ?_)
        refine wpAnyM_take (i := 0) (v := ?vfb0) hB rfl (by kernel_rfl) (fun _ _ _ h => h) (by first | kernel_rfl | simp [Region.wanted, yielded, Act.put]) ?yfb0 hS ?nfb0
        case yfb0 => (intro w9 hSw; obtain ⟨s1, s2, s3, s4, s5, _⟩ := hSw; go_simp; try with_reducible rfl)
        refine wpAnyM_take (i := 1) (v := ?vfb1) hB rfl (by kernel_rfl) (fun _ _ _ h => h) (by first | kernel_rfl | simp [Region.wanted, yielded, Act.put]) ?yfb1 hS ?nfb1
        case yfb1 => (intro w9 hSw; obtain ⟨s1, s2, s3, s4, s5, _⟩ := hSw; go_simp; try with_reducible rfl)
        refine wpAnyM_take (i := 2) (v := ?vfb2) hB rfl (by kernel_rfl) (fun _ _ _ h => h) (by first | kernel_rfl | simp [Region.wanted, yielded, Act.put]) ?yfb2 hS ?nfb2
        case yfb2 => (intro w9 hSw; obtain ⟨s1, s2, s3, s4, s5, _⟩ := hSw; go_simp; try with_reducible rfl)
        refine wpAnyM_skip (i := 3) hB rfl (by kernel_rfl) (fun _ _ _ h => h) (by first | kernel_rfl | simp [Region.wanted, yielded, Act.put]) hS ?_
        refine wpAnyM_skip (i := 4) hB rfl (by kernel_rfl) (fun _ _ _ h => h) (by first | kernel_rfl | simp [Region.wanted, yielded, Act.put]) hS ?_
        refine wpAnyM_skip (i := 5) hB rfl (by kernel_rfl) (fun _ _ _ h => h) (by first | kernel_rfl | simp [Region.wanted, yielded, Act.put]) hS ?_
        refine wpAnyM_take (i := 6) (v := ?vfb6) hB rfl (by kernel_rfl) (fun _ _ _ h => h) (by first | kernel_rfl | simp [Region.wanted, yielded, Act.put]) ?yfb6 hS ?nfb6
        case yfb6 => (intro w9 hSw; obtain ⟨s1, s2, s3, s4, s5, _⟩ := hSw; go_simp; try with_reducible rfl)
        refine wpAnyM_take (i := 7) (v := ?vfb7) hB rfl (by kernel_rfl) (fun _ _ _ h => h) (by first | kernel_rfl | simp [Region.wanted, yielded, Act.put]) ?yfb7 hS ?nfb7
        case yfb7 => (intro w9 hSw; obtain ⟨s1, s2, s3, s4, s5, _⟩ := hSw; go_simp; try with_reducible rfl)
        refine wpAnyM_take (i := 8) (v := ?vfb8) hB rfl (by kernel_rfl) (fun _ _ _ h => h) (by first | kernel_rfl | simp [Region.wanted, yielded, Act.put]) ?yfb8 hS ?nfb8
        case yfb8 => (intro w9 hSw; obtain ⟨s1, s2, s3, s4, s5, _⟩ := hSw; go_simp; try with_reducible rfl)
        refine wpAnyM_take (i := 9) (v := ?vfb9) hB rfl (by kernel_rfl) (fun _ _ _ h => h) (by first | kernel_rfl | simp [Region.wanted, yielded, Act.put]) ?yfb9 hS ?nfb9
        case yfb9 => (intro w9 hSw; obtain ⟨s1, s2, s3, s4, s5, _⟩ := hSw; go_simp; try with_reducible rfl)
        refine wpAnyM_take (i := 10) (v := ?vfb10) hB rfl (by kernel_rfl) (fun _ _ _ h => h) (by first | kernel_rfl | simp [Region.wanted, yielded, Act.put]) ?yfb10 hS ?nfb10
        case yfb10 => (intro w9 hSw; obtain ⟨s1, s2, s3, s4, s5, _⟩ := hSw; go_simp; try with_reducible rfl)
        refine wpAnyM_take (i := 11) (v := ?vfb11) hB rfl (by kernel_rfl) (fun _ _ _ h => h) (by first | kernel_rfl | simp [Region.wanted, yielded, Act.put]) ?yfb11 hS ?nfb11
        case yfb11 => (intro w9 hSw; obtain ⟨s1, s2, s3, s4, s5, _⟩ := hSw; go_simp; try with_reducible rfl)
        refine wpAnyM_take (i := 12) (v := ?vfb12) hB rfl (by kernel_rfl) (fun _ _ _ h => h) (by first | kernel_rfl | simp [Region.wanted, yielded, Act.put]) ?yfb12 hS ?nfb12
        case yfb12 => (intro w9 hSw; obtain ⟨s1, s2, s3, s4, s5, _⟩ := hSw; go_simp; try with_reducible rfl)
        refine wpAnyM_take (i := 13) (v := ?vfb13) hB rfl (by kernel_rfl) (fun _ _ _ h => h) (by first | kernel_rfl | simp [Region.wanted, yielded, Act.put]) ?yfb13 hS ?nfb13
        case yfb13 => (intro w9 hSw; obtain ⟨s1, s2, s3, s4, s5, _⟩ := hSw; go_simp; try with_reducible rfl)
        refine wpAnyM_take (i := 14) (v := ?vfb14) hB rfl (by kernel_rfl) (fun _ _ _ h => h) (by first | kernel_rfl | simp [Region.wanted, yielded, Act.put]) ?yfb14 hS ?nfb14
        case yfb14 => (intro w9 hSw; obtain ⟨s1, s2, s3, s4, s5, _⟩ := hSw; go_simp; try with_reducible rfl)
        refine wpAnyM_take (i := 15) (v := ?vfb15) hB rfl (by kernel_rfl) (fun _ _ _ h => h) (by first | kernel_rfl | simp [Region.wanted, yielded, Act.put]) ?yfb15 hS ?nfb15
        case yfb15 => (intro w9 hSw; obtain ⟨s1, s2, s3, s4, s5, _⟩ := hSw; go_simp; try with_reducible rfl)
        refine wpAnyM_take (i := 16) (v := ?vfb16) hB rfl (by kernel_rfl) (fun _ _ _ h => h) (by first | kernel_rfl | simp [Region.wanted, yielded, Act.put]) ?yfb16 hS ?nfb16
        case yfb16 => (intro w9 hSw; obtain ⟨s1, s2, s3, s4, s5, _⟩ := hSw; go_simp; try with_reducible rfl)
        refine wpAnyM_take (i := 17) (v := ?vfb17) hB rfl (by kernel_rfl) (fun _ _ _ h => h) (by first | kernel_rfl | simp [Region.wanted, yielded, Act.put]) ?yfb17 hS ?nfb17
        case yfb17 => (intro w9 hSw; obtain ⟨s1, s2, s3, s4, s5, _⟩ := hSw; go_simp; try with_reducible rfl)
        refine wpAnyM_take (i := 18) (v := ?vfb18) hB rfl (by kernel_rfl) (fun _ _ _ h => h) (by first | kernel_rfl | simp [Region.wanted, yielded, Act.put]) ?yfb18 hS ?nfb18
        case yfb18 => (intro w9 hSw; obtain ⟨s1, s2, s3, s4, s5, _⟩ := hSw; go_simp; try with_reducible rfl)
        refine wpAnyM_take (i := 19) (v := ?vfb19) hB rfl (by kernel_rfl) (fun _ _ _ h => h) (by first | kernel_rfl | simp [Region.wanted, yielded, Act.put]) ?yfb19 hS ?nfb19
        case yfb19 => (intro w9 hSw; obtain ⟨s1, s2, s3, s4, s5, _⟩ := hSw; go_simp; try with_reducible rfl)
        refine wpAnyM_take (i := 20) (v := ?vfb20) hB rfl (by kernel_rfl) (fun _ _ _ h => h) (by first | kernel_rfl | simp [Region.wanted, yielded, Act.put]) ?yfb20 hS ?nfb20
        case yfb20 => (intro w9 hSw; obtain ⟨s1, s2, s3, s4, s5, _⟩ := hSw; go_simp; try with_reducible rfl)
        refine wpAnyM_take (i := 21) (v := ?vfb21) hB rfl (by kernel_rfl) (fun _ _ _ h => h) (by first | kernel_rfl | simp [Region.wanted, yielded, Act.put]) ?yfb21 hS ?nfb21
        case yfb21 => (intro w9 hSw; obtain ⟨s1, s2, s3, s4, s5, _⟩ := hSw; go_simp; try with_reducible rfl)
        refine wpAnyM_take (i := 22) (v := ?vfb22) hB rfl (by kernel_rfl) (fun _ _ _ h => h) (by first | kernel_rfl | simp [Region.wanted, yielded, Act.put]) ?yfb22 hS ?nfb22
        case yfb22 => (intro w9 hSw; obtain ⟨s1, s2, s3, s4, s5, _⟩ := hSw; go_simp; try with_reducible rfl)
        have HSx := Lib.hid hS
        clear hS
        go_simp
        refine wpAnyM_oneW (i := 23) rfl (by kernel_rfl) (by first | kernel_rfl | simp [Region.wanted, yielded, Act.put]) ?_
        go_wp2_with fail
        refine (HSK.out _ _ _ _ _ (O0_12.out.keep (Grows.refl _).drew) (L0_12.out.keep (Grows.refl _).drew)).mono ?_
        rintro e w13 ⟨rfl, gq⟩
        have J13 : Hid (Grows w12 w13) := (Grows.refl w12).drew.trans gq
        have HSy := Lib.hid (CellsAre.keep HSx.out gq)
        clear gq HSx
        go_wp2_with fail
        refine ⟨HSy.out, ?_⟩
        have hS := HSy.out
        clear HSy
        refine wpAnyM_take (i := 24) (v := ?vfb24) hB rfl (by kernel_rfl) (fun _ _ _ h => h) (by first | kernel_rfl | simp [Region.wanted, yielded, Act.put]) ?yfb24 hS ?nfb24
        case yfb24 => (intro w9 hSw; obtain ⟨s1, s2, s3, s4, s5, _⟩ := hSw; go_simp; try with_reducible rfl)
        refine wpAnyM_take (i := 25) (v := ?vfb25) hB rfl (by kernel_rfl) (fun _ _ _ h => h) (by first | kernel_rfl | simp [Region.wanted, yielded, Act.put]) ?yfb25 hS ?nfb25
        case yfb25 => (intro w9 hSw; obtain ⟨s1, s2, s3, s4, s5, _⟩ := hSw; go_simp; try with_reducible rfl)
        clear hS
        refine wpAnyM_tail (by kernel_rfl) ?_
        clear hB
        go_wp2
        go_ret
        exact ⟨rfl, (HG1.out.trans (T12.out.trans J13.out)).below⟩
      · have hs := HSB rfl
        subst hs
        have hz0 : (((0 : Nat) : Int) == 0) = true := rfl
        refine wp_region_M 26 (CellsAre [(⟨b_X9, 0, none⟩, (.slice AO9 nO9 cO9)), (⟨w1.heap.size + 1, 0, none⟩, (.slice B0 d0 e0)), (⟨b_X11, 0, none⟩, (.slice AO11 0 cO11)), (⟨b_X5, 0, none⟩, (.slice AO4 nO4 cO4)), (⟨w1.heap.size, 0, none⟩, (.slice A0 n0 c0))]) (by kernel_rfl) (by kernel_rfl) ⟨X9_12.out.cell, X4_12.out.cell, X11_12.out.cell, X5_12.out.cell, X3_12.out.cell, trivial⟩ (fun hB hS => ?_)
        refine wpAnyM_take (i := 0) (v := ?vfa0) hB rfl (by kernel_rfl) (fun _ _ _ h => h) (by first | kernel_rfl | simp [Region.wanted, yielded, Act.put]) ?yfa0 hS ?nfa0
        case yfa0 => (intro w9 hSw; obtain ⟨s1, s2, s3, s4, s5, _⟩ := hSw; go_simp; try with_reducible rfl)
        refine wpAnyM_take (i := 1) (v := ?vfa1) hB rfl (by kernel_rfl) (fun _ _ _ h => h) (by first | kernel_rfl | simp [Region.wanted, yielded, Act.put]) ?yfa1 hS ?nfa1
        case yfa1 => (intro w9 hSw; obtain ⟨s1, s2, s3, s4, s5, _⟩ := hSw; go_simp; try with_reducible rfl)
        refine wpAnyM_take (i := 2) (v := ?vfa2) hB rfl (by kernel_rfl) (fun _ _ _ h => h) (by first | kernel_rfl | simp [Region.wanted, yielded, Act.put]) ?yfa2 hS ?nfa2
        case yfa2 => (intro w9 hSw; obtain ⟨s1, s2, s3, s4, s5, _⟩ := hSw; go_simp; try with_reducible rfl)
        refine wpAnyM_take (i := 3) (v := ?vfa3) hB rfl (by kernel_rfl) (fun _ _ _ h => h) (by first | kernel_rfl | simp [Region.wanted, yielded, Act.put]) ?yfa3 hS ?nfa3
        case yfa3 => (intro w9 hSw; obtain ⟨s1, s2, s3, s4, s5, _⟩ := hSw; go_simp; try with_reducible rfl)
        refine wpAnyM_take (i := 4) (v := ?vfa4) hB rfl (by kernel_rfl) (fun _ _ _ h => h) (by first | kernel_rfl | simp [Region.wanted, yielded, Act.put]) ?yfa4 hS ?nfa4
        case yfa4 => (intro w9 hSw; obtain ⟨s1, s2, s3, s4, s5, _⟩ := hSw; go_simp; try with_reducible rfl)
        have HSx := Lib.hid hS
        clear hS
        refine wpAnyM_oneW (i := 5) rfl (by kernel_rfl) (by first | kernel_rfl | simp [Region.wanted, yielded, Act.put]) ?_
        go_wp2_with fail
        refine (HSM.out _ _ _ _ _ (O9_12.out.keep (Grows.refl _).drew) (L0_12.out.keep (Grows.refl _).drew)).mono ?_
        rintro e w13 ⟨rfl, gq⟩
        have J13 : Hid (Grows w12 w13) := (Grows.refl w12).drew.trans gq
        have HSy := Lib.hid (CellsAre.keep HSx.out gq)
        clear gq HSx
        go_wp2_with fail
        refine ⟨HSy.out, ?_⟩
        have hS := HSy.out
        clear HSy
        refine wpAnyM_take (i := 6) (v := ?vfa6) hB rfl (by kernel_rfl) (fun _ _ _ h => h) (by first | kernel_rfl | simp [Region.wanted, yielded, Act.put]) ?yfa6 hS ?nfa6
        case yfa6 => (intro w9 hSw; obtain ⟨s1, s2, s3, s4, s5, _⟩ := hSw; go_simp; try with_reducible rfl)
        refine wpAnyM_take (i := 7) (v := ?vfa7) hB rfl (by kernel_rfl) (fun _ _ _ h => h) (by first | kernel_rfl | simp [Region.wanted, yielded, Act.put]) ?yfa7 hS ?nfa7
        case yfa7 => (intro w9 hSw; obtain ⟨s1, s2, s3, s4, s5, _⟩ := hSw; go_simp; try with_reducible rfl)
        refine wpAnyM_take (i := 8) (v := ?vfa8) hB rfl (by kernel_rfl) (fun _ _ _ h => h) (by first | kernel_rfl | simp [Region.wanted, yielded, Act.put]) ?yfa8 hS ?nfa8
        case yfa8 => (intro w9 hSw; obtain ⟨s1, s2, s3, s4, s5, _⟩ := hSw; go_simp; try with_reducible rfl)
        refine wpAnyM_take (i := 9) (v := ?vfa9) hB rfl (by kernel_rfl) (fun _ _ _ h => h) (by first | kernel_rfl | simp [Region.wanted, yielded, Act.put]) ?yfa9 hS ?nfa9
        case yfa9 => (intro w9 hSw; obtain ⟨s1, s2, s3, s4, s5, _⟩ := hSw; go_simp; try with_reducible rfl)
        refine wpAnyM_take (i := 10) (v := ?vfa10) hB rfl (by kernel_rfl) (fun _ _ _ h => h) (by first | kernel_rfl | simp [Region.wanted, yielded, Act.put]) ?yfa10 hS ?nfa10
        case yfa10 => (intro w9 hSw; obtain ⟨s1, s2, s3, s4, s5, _⟩ := hSw; go_simp; try with_reducible rfl)
        refine wpAnyM_take (i := 11) (v := ?vfa11) hB rfl (by kernel_rfl) (fun _ _ _ h => h) (by first | kernel_rfl | simp [Region.wanted, yielded, Act.put]) ?yfa11 hS ?nfa11
        case yfa11 => (intro w9 hSw; obtain ⟨s1, s2, s3, s4, s5, _⟩ := hSw; go_simp; try with_reducible rfl)
        refine wpAnyM_take (i := 12) (v := ?vfa12) hB rfl (by kernel_rfl) (fun _ _ _ h => h) (by first | kernel_rfl | simp [Region.wanted, yielded, Act.put]) ?yfa12 hS ?nfa12
        case yfa12 => (intro w9 hSw; obtain ⟨s1, s2, s3, s4, s5, _⟩ := hSw; go_simp; try with_reducible rfl)
        refine wpAnyM_take (i := 13) (v := ?vfa13) hB rfl (by kernel_rfl) (fun _ _ _ h => h) (by first | kernel_rfl | simp [Region.wanted, yielded, Act.put]) ?yfa13 hS ?nfa13
        case yfa13 => (intro w9 hSw; obtain ⟨s1, s2, s3, s4, s5, _⟩ := hSw; go_simp; try with_reducible rfl)
        refine wpAnyM_take (i := 14) (v := ?vfa14) hB rfl (by kernel_rfl) (fun _ _ _ h => h) (by first | kernel_rfl | simp [Region.wanted, yielded, Act.put]) ?yfa14 hS ?nfa14
        case yfa14 => (intro w9 hSw; obtain ⟨s1, s2, s3, s4, s5, _⟩ := hSw; go_simp; try with_reducible rfl)
        refine wpAnyM_take (i := 15) (v := ?vfa15) hB rfl (by kernel_rfl) (fun _ _ _ h => h) (by first | kernel_rfl | simp [Region.wanted, yielded, Act.put]) ?yfa15 hS ?nfa15
        case yfa15 => (intro w9 hSw; obtain ⟨s1, s2, s3, s4, s5, _⟩ := hSw; go_simp; try with_reducible rfl)
        refine wpAnyM_take (i := 16) (v := ?vfa16) hB rfl (by kernel_rfl) (fun _ _ _ h => h) (by first | kernel_rfl | simp [Region.wanted, yielded, Act.put]) ?yfa16 hS ?nfa16
        case yfa16 => (intro w9 hSw; obtain ⟨s1, s2, s3, s4, s5, _⟩ := hSw; go_simp; try with_reducible rfl)
        refine wpAnyM_take (i := 17) (v := ?vfa17) hB rfl (by kernel_rfl) (fun _ _ _ h => h) (by first | kernel_rfl | simp [Region.wanted, yielded, Act.put]) ?yfa17 hS ?nfa17
        case yfa17 => (intro w9 hSw; obtain ⟨s1, s2, s3, s4, s5, _⟩ := hSw; go_simp; try with_reducible rfl)
        refine wpAnyM_take (i := 18) (v := ?vfa18) hB rfl (by kernel_rfl) (fun _ _ _ h => h) (by first | kernel_rfl | simp [Region.wanted, yielded, Act.put]) ?yfa18 hS ?nfa18
        case yfa18 => (intro w9 hSw; obtain ⟨s1, s2, s3, s4, s5, _⟩ := hSw; go_simp; try with_reducible rfl)
        refine wpAnyM_take (i := 19) (v := ?vfa19) hB rfl (by kernel_rfl) (fun _ _ _ h => h) (by first | kernel_rfl | simp [Region.wanted, yielded, Act.put]) ?yfa19 hS ?nfa19
        case yfa19 => (intro w9 hSw; obtain ⟨s1, s2, s3, s4, s5, _⟩ := hSw; go_simp; try with_reducible rfl)
        refine wpAnyM_take (i := 20) (v := ?vfa20) hB rfl (by kernel_rfl) (fun _ _ _ h => h) (by first | kernel_rfl | simp [Region.wanted, yielded, Act.put]) ?yfa20 hS ?nfa20
        case yfa20 => (intro w9 hSw; obtain ⟨s1, s2, s3, s4, s5, _⟩ := hSw; go_simp; try with_reducible rfl)
        refine wpAnyM_take (i := 21) (v := ?vfa21) hB rfl (by kernel_rfl) (fun _ _ _ h => h) (by first | kernel_rfl | simp [Region.wanted, yielded, Act.put]) ?yfa21 hS ?nfa21
        case yfa21 => (intro w9 hSw; obtain ⟨s1, s2, s3, s4, s5, _⟩ := hSw; go_simp; try with_reducible rfl)
        refine wpAnyM_take (i := 22) (v := ?vfa22) hB rfl (by kernel_rfl) (fun _ _ _ h => h) (by first | kernel_rfl | simp [Region.wanted, yielded, Act.put]) ?yfa22 hS ?nfa22
        case yfa22 => (intro w9 hSw; obtain ⟨s1, s2, s3, s4, s5, _⟩ := hSw; go_simp; try with_reducible rfl)
        have HSx := Lib.hid hS
        clear hS
        go_simp
        refine wpAnyM_oneW (i := 23) rfl (by kernel_rfl) (by first | kernel_rfl | simp [Region.wanted, yielded, Act.put]) ?_
        go_wp2_with fail
        refine (HSK.out _ _ _ _ _ (O0_12.out.keep J13.out) (L0_12.out.keep J13.out)).mono ?_
        rintro e w14 ⟨rfl, gq⟩
        have J14 : Hid (Grows w12 w14) := J13.out.trans gq
        have HSy := Lib.hid (CellsAre.keep HSx.out gq)
        clear gq HSx
        go_wp2_with fail
        refine ⟨HSy.out, ?_⟩
        have hS := HSy.out
        clear HSy
        refine wpAnyM_take (i := 24) (v := ?vfa24) hB rfl (by kernel_rfl) (fun _ _ _ h => h) (by first | kernel_rfl | simp [Region.wanted, yielded, Act.put]) ?yfa24 hS ?nfa24
        case yfa24 => (intro w9 hSw; obtain ⟨s1, s2, s3, s4, s5, _⟩ := hSw; go_simp; try with_reducible rfl)
        refine wpAnyM_take (i := 25) (v := ?vfa25) hB rfl (by kernel_rfl) (fun _ _ _ h => h) (by first | kernel_rfl | simp [Region.wanted, yielded, Act.put]) ?yfa25 hS ?nfa25
        case yfa25 => (intro w9 hSw; obtain ⟨s1, s2, s3, s4, s5, _⟩ := hSw; go_simp; try with_reducible rfl)
        clear hS
        refine wpAnyM_tail (by kernel_rfl) ?_
        clear hB
        go_wp2
        go_ret
        exact ⟨rfl, (HG1.out.trans (T12.out.trans J14.out)).below⟩
end Go.Proofs.YtcecjdjfbgmogaaDoor
