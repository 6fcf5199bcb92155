/-
  What the drawn laws' generator makes of entries: goodEntries. Conditions: the reader's place is at most 60000.
-/
import Derived.Test.YtkjoolmhcfajnaaDoorRdr
import Derived.Test.YtkjoolmhcfajnaaDoorMeanP
import Derived.Test.YtkjoolmhcfajnaaDoorEntH
import Derived.Test.YtkjoolmhcfajnaaDoorApartB
namespace Go.Proofs.YtkjoolmhcfajnaaDoor
open Go.RowKit

def Ent.short (e : Ent) : Prop := e.s.size ≤ 41 ∧ e.k.size ≤ 41 ∧ e.v.size ≤ 41 ∧ (-100 ≤ e.op ∧ e.op ≤ 100)
/-- all entries have short texts -/
def ShortE (K : List Ent) : Prop := ∀ e ∈ K, e.short
theorem ShortE.snoc {K : List Ent} {l : Ent} (h : ShortE K) (hl : l.short) : ShortE (K ++ [l]) := by
  intro x hx
  rcases List.mem_append.1 hx with h1 | h1
  · exact h x h1
  · rw [List.mem_singleton] at h1; subst h1; exact hl
theorem ShortE.set_ {K : List Ent} (h : ShortE K) (k : Nat) (l : Ent) (hl : l.short) : ShortE (K.set k l) := by
  intro x hx
  rcases List.mem_or_eq_of_mem_set hx with h1 | h1
  · exact h x h1
  · rw [h1]; exact hl
theorem ShortE.fit {K : List Ent} (h : ShortE K) (hK : K.length ≤ 101) : EFit K := by
  refine ⟨by omega, fun i hi => ?_⟩
  obtain ⟨h1, h2, h3, _⟩ := h K[i] (List.getElem_mem hi)
  exact ⟨by omega, by omega, by omega⟩
theorem ecells_field (K : List Ent) : ∀ (k : Nat) (h : k < K.length) (d : Nat) (_ : d < 4) (u : Value) (l : Ent), (ecell K[k]).set d u = ecell l → (ecells K).set (k * 4 + d) u = ecells (K.set k l) := by
  induction K with
  | nil => intro k h; exact absurd h (by simp)
  | cons x K ih =>
    intro k h d hd u l hl
    have hx : (ecell x).length = 4 := rfl
    cases k with
    | zero =>
      rw [ecells, Nat.zero_mul, Nat.zero_add, List.set_append_left _ _ (by rw [hx]; exact hd)]
      have h2 : (ecell x).set d u = ecell l := hl
      rw [h2]
      rfl
    | succ k =>
      rw [ecells, List.set_append_right _ _ (by rw [hx]; omega), hx, show (k + 1) * 4 + d - 4 = k * 4 + d from by omega, ih k (by simpa using h) d hd u l hl]
      rfl
theorem OwnE.field {w : World} {base g n c : Nat} {K : List Ent} (h : OwnE w base (.slice (some ⟨g, 0, none⟩) n c) K) (hn : K.length = n) {k : Nat} (hk : k < K.length) (d : Nat) (hd : d < 4) (u : Value) {l : Ent} (hl : (ecell K[k]).set d u = ecell l) : OwnE (w.setCell ⟨g, k * 4 + d, none⟩ u) base (.slice (some ⟨g, 0, none⟩) n c) (K.set k l) := by
  unfold OwnE
  rw [← ecells_field K k hk d hd u l hl, List.length_set]
  subst hn
  exact (World.ownsRow.stored h _ _).1
theorem OwnE.some_ {w : World} {base g n c : Nat} {K : List Ent} (h : OwnE w base (.slice (some ⟨g, 0, none⟩) n c) K) (hn : K.length = n) {k : Nat} (hk : k < K.length) {d : Nat} (hd : d < 4) : ∃ v, w.cell? ⟨g, k * 4 + d, none⟩ = some v := by
  subst hn
  exact ⟨_, (World.ownsRow.cellAt h (k * 4 + d) (by omega)).trans (List.getElem?_eq_getElem (by rw [ecells_length]; omega))⟩
theorem OwnE.free {w : World} {base g n c : Nat} {K : List Ent} (h : OwnE w base (.slice (some ⟨g, 0, none⟩) n c) K) (j : Nat) : w.frozen? ⟨g, j, none⟩ = false := by
  rcases h.2 with ⟨h1, _⟩ | ⟨g', cap, cur, h1, _, h2, _⟩
  · cases h1
  · injection h1 with h1 _ _
    injection h1 with h1
    injection h1 with h1
    subst h1
    exact frozen_of_row w g j cur _ h2
theorem OwnE.row2 {w : World} {base : Nat} {v : Value} {K : List Ent} (h : OwnE w base v K) (h0 : 0 < K.length) : ∃ g c, v = .slice (some ⟨g, 0, none⟩) K.length c ∧ base ≤ g ∧ g < w.heap.size := by
  rcases h.2 with ⟨_, h1⟩ | ⟨g, cap, cur, h1, h2, h3, _⟩
  · omega
  · exact ⟨g, cap, h1, h2, ((World.ownsRow.lt h) g (by rw [h1]; rfl)).2⟩
theorem BoxE.set2 {w : World} {b : Nat} {e : Ent} {T : TypeId} (h : BoxE w b e T) (u : Int) : BoxE (w.setCell ⟨b, 2, none⟩ (.int .i64 u)) b ⟨e.s, e.k, u, e.v⟩ T := by
  unfold BoxE
  unfold BoxE at h
  simp [World.setCell, Array.getElem?_modify, h]
theorem BoxE.set3 {w : World} {b : Nat} {e : Ent} {T : TypeId} (h : BoxE w b e T) (u : ByteArray) : BoxE (w.setCell ⟨b, 3, none⟩ (.string u)) b ⟨e.s, e.k, e.op, u⟩ T := by
  unfold BoxE
  unfold BoxE at h
  simp [World.setCell, Array.getElem?_modify, h]
theorem BoxE.free {w : World} {b : Nat} {e : Ent} {T : TypeId} (h : BoxE w b e T) (j : Nat) : w.frozen? ⟨b, j, none⟩ = false := frozen_of_row w b j _ _ h
theorem OwnE.at4 {w : World} {base g n c : Nat} {K : List Ent} (h : OwnE w base (.slice (some ⟨g, 0, none⟩) n c) K) (hn : K.length = n) {k : Nat} (hk : k < K.length) : EntAt w g (k * 4) K[k] := by
  subst hn
  have hx := fun d (hd : d < 4) => (World.ownsRow.cellAt h (k * 4 + d) (by omega)).trans (ecells_get K k hk d hd)
  exact ⟨hx 0 (by omega), hx 1 (by omega), hx 2 (by omega), hx 3 (by omega)⟩
/-- a call's end: at most 100 entries of short texts, at most d places further -/
def EntsGen (d g : Nat) (A : Option Addr) (n c p : Nat) (w : World) (e : Ending) (w' : World) : Prop :=
  ∃ (v : Value) (K : List Ent), e = .returned v ∧ ShortE K ∧ K.length ≤ 100 ∧ OwnE w' w.heap.size v K ∧ RdOn g A n c p d w w'
/-- a call's end: a layer of at most 101 entries of short texts, at most d places further -/
def LayerGen (d g : Nat) (A : Option Addr) (n c p : Nat) (w : World) (e : Ending) (w' : World) : Prop :=
  ∃ (v : Value) (K : List Ent), e = .returned (.agg #[v]) ∧ ShortE K ∧ K.length ≤ 101 ∧ OwnE w' w.heap.size v K ∧ RdOn g A n c p d w w'

set_option maxRecDepth 100000 in
set_option maxHeartbeats 4000000 in
theorem goodEntries_any (g : Nat) (A : Option Addr) (n c p : Nat) (w : World) (flat : Bool) (hp : p ≤ 60000) (hn : n ≤ 2000) (h : Rd w g A n c p) :
    Calls Tryd.prog 51 #[.pointer (some ⟨g, 0, none⟩), .bool flat] w (EntsGen 801 g A n c p w) := by
  have H0 := Lib.hid h
  have HR := Lib.hid (fun o o2 => h.keep (((Grows.refl w).alloc o).alloc o2))
  have HL2 := Lib.hid (show w.heap.size + 1 ≠ g from by have := h.lt; omega)
  have hgl := h.lt
  clear h
  go_enter Tryd.func51, Tryd.ntmps51
  go_wp2_with fail
  refine (one_any (w.heap.size + 1) 8 _ _ _ g A n c p _ (alloc_new2 w _ _) rfl (by decide) (by decide) (by kernel_rfl) HL2.out (by omega) hn (HR.out _ _)).mono ?_
  rintro e w1 ⟨x, rfl, ⟨hx0, hx1⟩, q1, a1, b1, r1, k1⟩
  have G1 : Hid (w.grownBy w1 (some g)) := (gb_of (((Grows.refl w).alloc _).alloc _)).trans k1
  have R1 := Lib.hid r1
  have O1 : Hid (OwnE w1 w.heap.size (.slice (some ⟨w.heap.size, 0, none⟩) 0 0) []) := OwnE.far ((OwnE.empty w w.heap.size (Nat.le_refl _)).keep ((Grows.refl _).alloc _)) k1 (fun k hk e => by injection e with e; have hk' : some w.heap.size = some k := hk; injection hk' with hk'; omega)
  clear r1 k1
  go_wp2_with fail
  go_loopw [5, 6] (fun v i wr => ∃ (x : Int) (K : List Ent) (q : Nat), i = .int .i64 x ∧ -100 ≤ x ∧ x ≤ 100 ∧ ((K.length : Int) + x ≤ 100 ∧ K.length ≤ 100) ∧ (q : Int) ≤ p + 1 + 4 * (100 - x) ∧ p ≤ q ∧ Hid (ShortE K) ∧ Hid (OwnE wr w.heap.size v K) ∧ Hid (Rd wr g A n c q) ∧ Hid (w.grownBy wr (some g))) (fun _ i _ => (intOf i + 101).toNat)
  case atStart => exact ⟨x, [], q1, rfl, by omega, by omega, ⟨by simp; omega, by simp⟩, by omega, by omega, (fun l h => by cases h), O1.out, R1.out, G1.out⟩
  case round =>
    obtain ⟨y, K, q, rfl, hy0, hy1, ⟨hK, hK1⟩, hq, hq0, HS, HO, HRd, HG⟩ := hrel
    obtain ⟨A9, c9, rfl, _⟩ := OwnE.form HO.out
    by_cases hlt : 0 < y
    · go_wp2_with fail
      refine (aSection_any g A n c q _ (by omega) hn HRd.out).mono ?_
      rintro e w2 ⟨s1, rfl, hs1, q2, a2, b2, r2, k2⟩
      have R2 := Lib.hid r2
      have K2 := Lib.hid k2
      have HS1 := Lib.hid hs1
      clear r2 k2 hs1
      go_wp2_with fail
      refine (aKey_any g A n c q2 _ (by omega) hn R2.out).mono ?_
      rintro e w3 ⟨s2, rfl, hs2, q3, a3, b3, r3, k3⟩
      have R3 := Lib.hid r3
      have K3 := Lib.hid (K2.out.trans k3)
      have HS2 := Lib.hid hs2
      clear r3 k3 hs2 K2 R2
      go_wp2_with fail
      refine (aValue_any g A n c q3 _ (by omega) hn R3.out).mono ?_
      rintro e w4 ⟨s3, rfl, hs3, q4, a4, b4, r4, k4⟩
      have R4 := Lib.hid r4
      have K4 := Lib.hid (K3.out.trans k4)
      have HS3 := Lib.hid hs3
      clear r4 k4 hs3 K3 R3
      have G4 : Hid (w.grownBy w4 (some g)) := HG.out.trans K4.out
      have O4 := Lib.hid (HO.out.far K4.out (fun k hk e => by injection e with e; have := (HO.out.lt k hk).1; omega))
      clear K4
      have HVB : Hid (∀ k, (Value.slice A9 K.length c9).ownBlock = some k → k < w4.heap.size) := fun k hk => (O4.out.lt k hk).2
      have hbw : w.heap.size ≤ w4.heap.size := G4.out.size
      go_upto_region 6 with (fail)
      have BE : Hid (BoxE (w4.alloc (.cells #[.string s1, .string s2, .int .i64 0, .string s3] 33)) w4.heap.size ⟨s1, s2, 0, s3⟩ 33) := BoxE.new w4 ⟨s1, s2, 0, s3⟩ _
      have R5 := Lib.hid (R4.out.keep ((Grows.refl w4).alloc (.cells #[.string s1, .string s2, .int .i64 0, .string s3] 33)))
      have O5 := Lib.hid (O4.out.keep ((Grows.refl w4).alloc (.cells #[.string s1, .string s2, .int .i64 0, .string s3] 33)))
      have G5 : Hid (w.grownBy (w4.alloc (.cells #[.string s1, .string s2, .int .i64 0, .string s3] 33)) (some g)) := gb_grows G4.out ((Grows.refl _).alloc _)
      obtain ⟨w5, hw5⟩ : ∃ w5, w4.alloc (.cells #[.string s1, .string s2, .int .i64 0, .string s3] 33) = w5 := ⟨_, rfl⟩
      rw [hw5] at BE R5 O5 G5 ⊢
      obtain ⟨b, hb⟩ : ∃ b, w4.heap.size = b := ⟨_, rfl⟩
      rw [hb] at BE HVB hbw ⊢
      clear hw5 hb R4 O4 G4 HO HRd HG
      rcases flat with _ | _
      · have hLb := Lib.hid (show w5.heap.size ≠ g by have := G5.out.size; omega)
        go_wp2_with fail
        refine (one_any w5.heap.size 5 _ _ _ g A n c q4 _ (heap_alloc_new w5 _) rfl (by decide) (by decide) (by kernel_rfl) hLb.out (by omega) hn (R5.out.keep ((Grows.refl _).alloc _))).mono ?_
        rintro e w7 h7
        obtain ⟨u, rfl, hu, q7, a7, b7, r7, k7⟩ := IntRet.of h7 ((Grows.refl _).alloc _)
        clear h7
        have HU := Lib.hid hu
        have R7 := Lib.hid r7
        have B7 := Lib.hid (BE.out.far k7 (fun e => by injection e with e; omega))
        have O7 := Lib.hid (O5.out.far k7 (fun k hk e => by injection e with e; have := (O5.out.lt k hk).1; omega))
        have G7 : Hid (w.grownBy w7 (some g)) := G5.out.trans k7
        clear hu r7 k7 BE R5 O5 G5
        have B8 := Lib.hid (B7.out.set2 u)
        have R8 := Lib.hid (H0.out.setNew R7.out hbw 2 (.int .i64 u))
        have O8 := Lib.hid (O7.out.setFar (p := b) (i := 2) (fun e => by have := HVB.out b e; omega) (.int .i64 u))
        have G8 := Lib.hid (gb_new G7.out hbw 2 (.int .i64 u))
        have c2 := B7.out.at2
        have f2 := B7.out.free 2
        go_upto_region 8 with (fail)
        obtain ⟨w8, hw8⟩ : ∃ w8, w7.setCell ⟨b, 2, none⟩ (.int .i64 u) = w8 := ⟨_, rfl⟩
        rw [hw8] at B8 R8 O8 G8 ⊢
        clear hw8 c2 f2 B7 R7 O7 G7 hLb
        have c2 := B8.out.at2
        simp only at c2
        by_cases hu1 : u = 1
        · subst hu1
          have c3 := B8.out.at3
          have f3 := B8.out.free 3
          simp only at c3
          have BEx := Lib.hid (B8.out.set3 ⟨#[]⟩)
          have Rx := Lib.hid (H0.out.setNew R8.out hbw 3 (.string ⟨#[]⟩))
          have Ox := Lib.hid (O8.out.setFar (p := b) (i := 3) (fun e => by have := HVB.out b e; omega) (.string ⟨#[]⟩))
          have Gx := Lib.hid (gb_new G8.out hbw 3 (.string ⟨#[]⟩))
          go_upto_region 10 with (fail)
          obtain ⟨w9, hw9⟩ : ∃ w9, w8.setCell ⟨b, 3, none⟩ (.string ⟨#[]⟩) = w9 := ⟨_, rfl⟩
          rw [hw9] at BEx Rx Ox Gx ⊢
          clear hw9 c2 c3 f3 B8 R8 O8 G8
          have c0 := BEx.out.at0
          have c1 := BEx.out.at1
          have c2 := BEx.out.at2
          have c3 := BEx.out.at3
          simp only at c0 c1 c2 c3
          have hEx := (OwnE.form Ox.out)
          obtain ⟨A8, c8, he8, hE8⟩ := hEx
          injection he8 with he81 he82 he83
          subst he81
          have HEx := Lib.hid hE8
          clear hE8 he82 he83
          go_wp2_with fail
          refine (entryAt_any A9 c9 K s1 s2 _ (by omega) HEx.out).mono ?_
          rintro e wq ⟨rfl, rfl⟩
          obtain ⟨ix, hix⟩ : ∃ ix, entIdx K s1 s2 = ix := ⟨_, rfl⟩
          rw [hix]
          clear hix
          by_cases hneg : ix < 0
          · have hbase : w.heap.size ≤ w9.heap.size := Gx.out.size
            have hOal := Lib.hid (Ox.out.keep ((Grows.refl w9).alloc (.cells #[.string s1, .string s2, .int .i64 1, .string ⟨#[]⟩] 33)))
            go_wp2_with (at_builtin; refine appEs rfl _ _ rfl w.heap.size _ K rfl hOal.out ⟨w9.heap.size, 0, none⟩ 1 1 [⟨s1, s2, 1, ⟨#[]⟩⟩] rfl rfl (by omega) (one_newsE _ ⟨s1, s2, 1, ⟨#[]⟩⟩ _ rfl) (by omega) (by omega) (Nat.le_trans hbase (by simp)) ?_)
            intro v' w6 HO6 HGB HNE
            have G6' : Hid (w9.grownBy w6 (Value.slice A9 K.length c9).ownBlock) := (gb_of2 ((Grows.refl w9).alloc _) _).trans HGB.out
            have hrow : ∀ i, (Value.slice A9 K.length c9).ownBlock = some i → w.heap.size ≤ i := fun i hi => (Ox.out.lt i hi).1
            have R6 := Lib.hid (H0.out.newRow Rx.out G6'.out hrow)
            have G6 : Hid (w.grownBy w6 (some g)) := gb_row Gx.out G6'.out hrow
            have HKs := Lib.hid (HS.out.snoc (l := ⟨s1, s2, 1, ⟨#[]⟩⟩) ⟨HS1.out, HS2.out, empty_41, ⟨show (-100 : Int) ≤ 1 by omega, show (1 : Int) ≤ 100 by omega⟩⟩)
            clear HGB HNE hrow c0 c1 c2 c3
            go_wp2
            go_roundw
            case rel => exact ⟨y - 1, K ++ [(⟨s1, s2, 1, ⟨#[]⟩⟩ : Ent)], q7, by go_num, by omega, by omega, ⟨by simp; omega, by simp; omega⟩, by omega, by omega, HKs.out, HO6.out, R6.out, G6.out⟩
            case measure => simp [intOf]; omega
          · go_wp2
            go_roundw
            case rel => exact ⟨y - 1, K, q7, by go_num, by omega, by omega, ⟨by omega, by omega⟩, by omega, by omega, HS.out, Ox.out, Rx.out, Gx.out⟩
            case measure => simp [intOf]; omega
        · have hub : (u == 1) = false := by rw [beq_eq_false_iff_ne]; exact hu1
          have BEx := B8
          have Rx := R8
          have Ox := O8
          have Gx := G8
          clear B8 R8 O8 G8 c2 hu1
          have c0 := BEx.out.at0
          have c1 := BEx.out.at1
          have c2 := BEx.out.at2
          have c3 := BEx.out.at3
          simp only at c0 c1 c2 c3
          have hEx := (OwnE.form Ox.out)
          obtain ⟨A8, c8, he8, hE8⟩ := hEx
          injection he8 with he81 he82 he83
          subst he81
          have HEx := Lib.hid hE8
          clear hE8 he82 he83
          go_wp2_with fail
          refine (entryAt_any A9 c9 K s1 s2 _ (by omega) HEx.out).mono ?_
          rintro e wq ⟨rfl, rfl⟩
          obtain ⟨ix, hix⟩ : ∃ ix, entIdx K s1 s2 = ix := ⟨_, rfl⟩
          rw [hix]
          clear hix
          by_cases hneg : ix < 0
          · have hbase : w.heap.size ≤ w8.heap.size := Gx.out.size
            have hOal := Lib.hid (Ox.out.keep ((Grows.refl w8).alloc (.cells #[.string s1, .string s2, .int .i64 u, .string s3] 33)))
            go_wp2_with (at_builtin; refine appEs rfl _ _ rfl w.heap.size _ K rfl hOal.out ⟨w8.heap.size, 0, none⟩ 1 1 [⟨s1, s2, u, s3⟩] rfl rfl (by omega) (one_newsE _ ⟨s1, s2, u, s3⟩ _ rfl) (by omega) (by omega) (Nat.le_trans hbase (by simp)) ?_)
            intro v' w6 HO6 HGB HNE
            have G6' : Hid (w8.grownBy w6 (Value.slice A9 K.length c9).ownBlock) := (gb_of2 ((Grows.refl w8).alloc _) _).trans HGB.out
            have hrow : ∀ i, (Value.slice A9 K.length c9).ownBlock = some i → w.heap.size ≤ i := fun i hi => (Ox.out.lt i hi).1
            have R6 := Lib.hid (H0.out.newRow Rx.out G6'.out hrow)
            have G6 : Hid (w.grownBy w6 (some g)) := gb_row Gx.out G6'.out hrow
            have HKs := Lib.hid (HS.out.snoc (l := ⟨s1, s2, u, s3⟩) ⟨HS1.out, HS2.out, HS3.out, HU.out⟩)
            clear HGB HNE hrow c0 c1 c2 c3
            go_wp2
            go_roundw
            case rel => exact ⟨y - 1, K ++ [(⟨s1, s2, u, s3⟩ : Ent)], q7, by go_num, by omega, by omega, ⟨by simp; omega, by simp; omega⟩, by omega, by omega, HKs.out, HO6.out, R6.out, G6.out⟩
            case measure => simp [intOf]; omega
          · go_wp2
            go_roundw
            case rel => exact ⟨y - 1, K, q7, by go_num, by omega, by omega, ⟨by omega, by omega⟩, by omega, by omega, HS.out, Ox.out, Rx.out, Gx.out⟩
            case measure => simp [intOf]; omega
      · have BEx := BE
        have Rx := R5
        have Ox := O5
        have Gx := G5
        clear BE R5 O5 G5
        have c0 := BEx.out.at0
        have c1 := BEx.out.at1
        have c2 := BEx.out.at2
        have c3 := BEx.out.at3
        simp only at c0 c1 c2 c3
        have hEx := (OwnE.form Ox.out)
        obtain ⟨A8, c8, he8, hE8⟩ := hEx
        injection he8 with he81 he82 he83
        subst he81
        have HEx := Lib.hid hE8
        clear hE8 he82 he83
        go_wp2_with fail
        refine (entryAt_any A9 c9 K s1 s2 _ (by omega) HEx.out).mono ?_
        rintro e wq ⟨rfl, rfl⟩
        obtain ⟨ix, hix⟩ : ∃ ix, entIdx K s1 s2 = ix := ⟨_, rfl⟩
        rw [hix]
        clear hix
        by_cases hneg : ix < 0
        · have hbase : w.heap.size ≤ w5.heap.size := Gx.out.size
          have hOal := Lib.hid (Ox.out.keep ((Grows.refl w5).alloc (.cells #[.string s1, .string s2, .int .i64 0, .string s3] 33)))
          go_wp2_with (at_builtin; refine appEs rfl _ _ rfl w.heap.size _ K rfl hOal.out ⟨w5.heap.size, 0, none⟩ 1 1 [⟨s1, s2, 0, s3⟩] rfl rfl (by omega) (one_newsE _ ⟨s1, s2, 0, s3⟩ _ rfl) (by omega) (by omega) (Nat.le_trans hbase (by simp)) ?_)
          intro v' w6 HO6 HGB HNE
          have G6' : Hid (w5.grownBy w6 (Value.slice A9 K.length c9).ownBlock) := (gb_of2 ((Grows.refl w5).alloc _) _).trans HGB.out
          have hrow : ∀ i, (Value.slice A9 K.length c9).ownBlock = some i → w.heap.size ≤ i := fun i hi => (Ox.out.lt i hi).1
          have R6 := Lib.hid (H0.out.newRow Rx.out G6'.out hrow)
          have G6 : Hid (w.grownBy w6 (some g)) := gb_row Gx.out G6'.out hrow
          have HKs := Lib.hid (HS.out.snoc (l := ⟨s1, s2, 0, s3⟩) ⟨HS1.out, HS2.out, HS3.out, ⟨show (-100 : Int) ≤ 0 by omega, show (0 : Int) ≤ 100 by omega⟩⟩)
          clear HGB HNE hrow c0 c1 c2 c3
          go_wp2
          go_roundw
          case rel => exact ⟨y - 1, K ++ [(⟨s1, s2, 0, s3⟩ : Ent)], q4, by go_num, by omega, by omega, ⟨by simp; omega, by simp; omega⟩, by omega, by omega, HKs.out, HO6.out, R6.out, G6.out⟩
          case measure => simp [intOf]; omega
        · go_wp2
          go_roundw
          case rel => exact ⟨y - 1, K, q4, by go_num, by omega, by omega, ⟨by omega, by omega⟩, by omega, by omega, HS.out, Ox.out, Rx.out, Gx.out⟩
          case measure => simp [intOf]; omega
    · go_wp2
      go_ret
      exact ⟨_, K, rfl, HS.out, hK1, HO.out, ⟨q, hq0, by omega, HRd.out, HG.out⟩⟩
end Go.Proofs.YtkjoolmhcfajnaaDoor
