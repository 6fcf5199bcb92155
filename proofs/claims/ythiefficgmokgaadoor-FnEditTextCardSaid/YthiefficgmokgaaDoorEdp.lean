/-
  ParseEdit of both sides. Conditions: texts of at most 1048576 bytes.
-/
import Derived.Test.YthiefficgmokgaaDoorEdt
import Derived.Test.YthiefficgmokgaaDoorRdr
namespace Go.Proofs.YthiefficgmokgaaDoor
open Go.ChangeShapes Go.WideShapes Go.Deep Go.RowKit

/-- the row of an edit -/
def EdBox (w : World) (b : Nat) (r k : ByteArray) (d : Bool) (v : ByteArray) : Prop := w.heap[b]? = some (.cells #[.string r, .string k, .bool d, .string v] 26 (0, 0))
theorem EdBox.new (w : World) (r k : ByteArray) (d : Bool) (v : ByteArray) : EdBox (w.alloc (.cells #[.string r, .string k, .bool d, .string v] 26)) w.heap.size r k d v := heap_alloc_new w _
theorem EdBox.keep {w w' : World} {b : Nat} {r k : ByteArray} {d : Bool} {v : ByteArray} (h : EdBox w b r k d v) (g : Grows w w') : EdBox w' b r k d v := row_grow h g
theorem EdBox.lt {w : World} {b : Nat} {r k : ByteArray} {d : Bool} {v : ByteArray} (h : EdBox w b r k d v) : b < w.heap.size := by
  rcases Nat.lt_or_ge b w.heap.size with hlt | hge
  · exact hlt
  · unfold EdBox at h; rw [Array.getElem?_eq_none hge] at h; cases h
theorem EdBox.c0 {w : World} {b : Nat} {r k : ByteArray} {d : Bool} {v : ByteArray} (h : EdBox w b r k d v) : w.cell? ⟨b, 0, none⟩ = some (.string r) := by rw [cell_of_row w b 0 _ _ _ h]; rfl
theorem EdBox.c1 {w : World} {b : Nat} {r k : ByteArray} {d : Bool} {v : ByteArray} (h : EdBox w b r k d v) : w.cell? ⟨b, 1, none⟩ = some (.string k) := by rw [cell_of_row w b 1 _ _ _ h]; rfl
theorem EdBox.c2 {w : World} {b : Nat} {r k : ByteArray} {d : Bool} {v : ByteArray} (h : EdBox w b r k d v) : w.cell? ⟨b, 2, none⟩ = some (.bool d) := by rw [cell_of_row w b 2 _ _ _ h]; rfl
theorem EdBox.c3 {w : World} {b : Nat} {r k : ByteArray} {d : Bool} {v : ByteArray} (h : EdBox w b r k d v) : w.cell? ⟨b, 3, none⟩ = some (.string v) := by rw [cell_of_row w b 3 _ _ _ h]; rfl
theorem EdBox.fr {w : World} {b : Nat} {r k : ByteArray} {d : Bool} {v : ByteArray} (h : EdBox w b r k d v) (j : Nat) : w.frozen? ⟨b, j, none⟩ = false := frozen_of_row w b j _ _ h
theorem EdBox.set1 {w : World} {b : Nat} {r k : ByteArray} {d : Bool} {v : ByteArray} (h : EdBox w b r k d v) (u : ByteArray) : EdBox (w.setCell ⟨b, 1, none⟩ (.string u)) b r u d v := by
  unfold EdBox at h ⊢
  simp [World.setCell, Array.getElem?_modify, h]
theorem EdBox.set2 {w : World} {b : Nat} {r k : ByteArray} {d : Bool} {v : ByteArray} (h : EdBox w b r k d v) (u : Bool) : EdBox (w.setCell ⟨b, 2, none⟩ (.bool u)) b r k u v := by
  unfold EdBox at h ⊢
  simp [World.setCell, Array.getElem?_modify, h]
theorem EdBox.set3 {w : World} {b : Nat} {r k : ByteArray} {d : Bool} {v : ByteArray} (h : EdBox w b r k d v) (u : ByteArray) : EdBox (w.setCell ⟨b, 3, none⟩ (.string u)) b r k d u := by
  unfold EdBox at h ⊢
  simp [World.setCell, Array.getElem?_modify, h]
theorem row_set {w : World} {b c j : Nat} {o : Obj} (h : w.heap[b]? = some o) (u : Value) (hne : b ≠ c) : (w.setCell ⟨c, j, none⟩ u).heap[b]? = some o :=
  (Below.heap_setCell w ⟨c, j, none⟩ u b (fun e => by first | (simp at e; done) | (simp at e; omega) | omega)).trans h
/-- the row of a place -/
def RfBox (w : World) (b : Nat) (r k : ByteArray) : Prop := w.heap[b]? = some (.cells #[.string r, .string k] 41 (0, 0))
theorem RfBox.new (w : World) (r k : ByteArray) : RfBox (w.alloc (.cells #[.string r, .string k] 41)) w.heap.size r k := heap_alloc_new w _
theorem RfBox.keep {w w' : World} {b : Nat} {r k : ByteArray} (h : RfBox w b r k) (g : Grows w w') : RfBox w' b r k := row_grow h g
theorem RfBox.c0 {w : World} {b : Nat} {r k : ByteArray} (h : RfBox w b r k) : w.cell? ⟨b, 0, none⟩ = some (.string r) := by rw [cell_of_row w b 0 _ _ _ h]; rfl
theorem RfBox.c1 {w : World} {b : Nat} {r k : ByteArray} (h : RfBox w b r k) : w.cell? ⟨b, 1, none⟩ = some (.string k) := by rw [cell_of_row w b 1 _ _ _ h]; rfl

/-! ### what is read -/
def edS (s : ByteArray) : ByteArray := if pedB s = true then resS (eWhere s) else ⟨#[]⟩
def edK (s : ByteArray) : ByteArray := if pedB s = true then resK (eWhere s) else ⟨#[]⟩
def edD (s : ByteArray) : Bool := pedB s && eDrop s
def edV (s : ByteArray) : ByteArray := if pedB s = true then pedV s else ⟨#[]⟩
theorem ed_no {s : ByteArray} (h : pedB s = false) : edS s = ⟨#[]⟩ ∧ edK s = ⟨#[]⟩ ∧ edD s = false ∧ edV s = ⟨#[]⟩ := by
  unfold edS edK edD edV
  rw [h]
  exact ⟨rfl, rfl, rfl, rfl⟩
theorem ed_yes {s : ByteArray} (h : pedB s = true) : edS s = resS (eWhere s) ∧ edK s = resK (eWhere s) ∧ edD s = eDrop s ∧ edV s = pedV s := by
  unfold edS edK edD edV
  rw [h]
  exact ⟨rfl, rfl, rfl, rfl⟩
theorem pre_two (q : ByteArray) (h : 2 ≤ q.size) : ((q.extract 0 2).toList == [61, 32]) = Lib.hasPrefix q.data.toList [61, 32] := by
  rw [Lib.toList_data, Lib.extract_data]
  unfold Lib.hasPrefix
  have h2 : 2 ≤ q.data.toList.length := by rw [← Lib.size_eq]; exact h
  generalize q.data.toList = l at h2
  match l, h2 with
  | a :: b :: t, _ =>
    simp only [List.drop_zero, Nat.sub_zero, List.take_succ_cons, List.take_zero, List.isPrefixOf]
    rw [Bool.eq_iff_iff]
    simp
    constructor <;> (rintro ⟨h1, h2⟩; exact ⟨h1.symm, h2.symm⟩)
theorem pre_short (q : ByteArray) (h : q.size < 2) : Lib.hasPrefix q.data.toList [61, 32] = false := by
  have h2 : q.data.toList.length < 2 := by rw [← Lib.size_eq]; exact h
  unfold Lib.hasPrefix
  generalize q.data.toList = l at h2
  match l, h2 with
  | [], _ => rfl
  | [a], _ => simp [List.isPrefixOf]
theorem trim_val (q : ByteArray) : (⟨(Lib.trimPrefix q.data.toList (⟨#[61, 32]⟩ : ByteArray).data.toList).toArray⟩ : ByteArray) = if Lib.hasPrefix q.data.toList [61, 32] = true then q.extract 2 q.size else q := by
  refine ba_data ?_
  unfold Lib.trimPrefix
  by_cases h : Lib.hasPrefix q.data.toList [61, 32] = true
  · rw [if_pos h, if_pos h, Lib.extract_to_end]; rfl
  · rw [if_neg h, if_neg h]
theorem eDoes_le (s : ByteArray) : (eDoes s).size ≤ s.size := by
  unfold eDoes
  split
  · exact extract_le _ _ _
  · exact Nat.zero_le _
theorem edS_le (s : ByteArray) : (edS s).size ≤ s.size := by
  unfold edS; split
  · exact Nat.le_trans (resS_le _) (eWhere_le s)
  · exact Nat.zero_le _
theorem edK_le (s : ByteArray) : (edK s).size ≤ s.size := by
  unfold edK; split
  · exact Nat.le_trans (resK_le _) (eWhere_le s)
  · exact Nat.zero_le _
theorem edV_le (s : ByteArray) : (edV s).size ≤ s.size := by
  unfold edV; split
  · unfold pedV eVal
    split
    · exact Nat.zero_le _
    · exact Nat.le_trans (extract_le _ _ _) (eDoes_le s)
  · exact Nat.zero_le _

set_option maxHeartbeats 4000000 in
theorem specPEd_any (s : ByteArray) (w : World) (hs : s.size ≤ 1048576) :
    Calls Tryd.prog 11 #[.string s] w fun e w' => e = .returned (.tuple #[.agg #[.string (edS s), .string (edK s), .bool (edD s), .string (edV s)], .bool (pedB s)]) ∧ Grows w w' := by
  have HI := Lib.hid (fun w => specIndexOfBl_any s w (by unfold maxLen; omega))
  have HPB : Hid (pedB s = (decide (blAt s.data.toList < s.size) && (parB (eWhere s) && (eDrop s || (ePre s && vvalue (eVal s)))))) := rfl
  by_cases hb : blAt s.data.toList < s.size
  · obtain ⟨k, hk⟩ : ∃ k, blAt s.data.toList = k := ⟨_, rfl⟩
    have hw : s.extract 0 k = eWhere s := by unfold eWhere; rw [if_pos hb, hk]
    have hd : s.extract (k + 1) s.size = eDoes s := by unfold eDoes; rw [if_pos hb, hk]
    rw [blIx_yes hb, hk] at HI
    rw [decide_eq_true hb, Bool.true_and] at HPB
    rw [hk] at hb
    have hwl := eWhere_le s
    have hdl := eDoes_le s
    have HR1 : Hid (parB (eWhere s) = true → resS (eWhere s) = pSec (eWhere s) ∧ resK (eWhere s) = pKey (eWhere s)) := fun h => by unfold resS resK; rw [if_pos h, if_pos h]; exact ⟨rfl, rfl⟩
    have HVP : Hid (parB (eWhere s) = true → vplace (pSec (eWhere s)) (pKey (eWhere s)) = true) := fun h => by unfold parB at h; rw [Bool.and_eq_true] at h; exact h.1
    have HPA := Lib.hid (fun w => specPar_any (eWhere s) w (by omega))
    have hpl := Nat.le_trans (pSec_le (eWhere s)) (Nat.le_trans hwl hs)
    have hkl := Nat.le_trans (pKey_le (eWhere s)) (Nat.le_trans hwl hs)
    have HDR : Hid (eDrop s = ((eDoes s).toList == [45])) := rfl
    have HPR : Hid (ePre s = Lib.hasPrefix (eDoes s).data.toList [61, 32]) := rfl
    have HVL : Hid (eVal s = (eDoes s).extract 2 (eDoes s).size) := rfl
    have HPV : Hid (pedV s = if eDrop s = true then ⟨#[]⟩ else eVal s) := rfl
    have HNO := Lib.hid (@ed_no s)
    have HYE := Lib.hid (@ed_yes s)
    obtain ⟨q, hq⟩ : ∃ q, eDoes s = q := ⟨_, rfl⟩
    obtain ⟨wh, hwh⟩ : ∃ wh, eWhere s = wh := ⟨_, rfl⟩
    rw [hq] at hd hdl HDR HPR HVL
    rw [hwh] at hw HR1 HVP HPA hpl hkl HPB HYE
    obtain ⟨a, ha⟩ : ∃ a, pSec wh = a := ⟨_, rfl⟩
    obtain ⟨b, hb'⟩ : ∃ b, pKey wh = b := ⟨_, rfl⟩
    rw [ha] at HR1 HVP HPA hpl
    rw [hb'] at HR1 HVP HPA hkl
    clear hq hwh ha hb' hwl
    have h0k : (0 : Int) ≤ (k : Int) := by omega
    have hkn : (k : Int) < (s.size : Int) := by omega
    have hs2 : (s.size : Int) ≤ 1048576 := by omega
    by_cases hdd : eDrop s = true
    · have hqd : (q.toList == [45]) = true := by rw [← HDR.out]; exact hdd
      have hpv : pedV s = ⟨#[]⟩ := by rw [HPV.out, if_pos hdd]
      by_cases hp : parB wh = true
      · have hf : pedB s = true := by rw [HPB.out, hp, hdd]; rfl
        obtain ⟨e1, e2, e3, e4⟩ := HYE.out hf
        obtain ⟨z1, z2⟩ := HR1.out hp
        rw [z1] at e1
        rw [z2] at e2
        rw [hdd] at e3
        rw [hpv] at e4
        rw [e1, e2, e3, e4, hf]
        clear e1 e2 e3 e4 hf z1 z2 hpv HNO HYE
        have hve := vedit_ok (d := true) (HVP.out hp) vvalue_nil (fun _ => nil_toList)
        have HVE := Lib.hid (fun w => specVEd_any a b true ⟨#[]⟩ w hpl hkl (by decide))
        rw [hve] at HVE
        rw [hp] at HPA
        clear hve hp hdd HPB HR1 HVP HDR HPR HVL HPV
        go_enter Tryd.func11, Tryd.ntmps11
        go_upto_region 1 with (fail)
        have G0 : Hid (Grows w (w.alloc (.cells #[.string ⟨#[]⟩, .string ⟨#[]⟩, .bool false, .string ⟨#[]⟩] 26))) := (Grows.refl w).alloc _
        have RB0 := Lib.hid (EdBox.new w ⟨#[]⟩ ⟨#[]⟩ false ⟨#[]⟩)
        obtain ⟨w0, hw0⟩ : ∃ w0, w.alloc (.cells #[.string ⟨#[]⟩, .string ⟨#[]⟩, .bool false, .string ⟨#[]⟩] 26) = w0 := ⟨_, rfl⟩
        rw [hw0] at G0 RB0 ⊢
        clear hw0
        go_wp2_with fail
        refine (HI.out _).mono ?_
        rintro e w' ⟨rfl, rfl⟩
        go_wp2_with fail
        refine (HPA.out _).mono ?_
        rintro e w1 ⟨rfl, g1⟩
        have G1 : Hid (Grows w w1) := G0.out.trans g1
        have RB1 := Lib.hid (RB0.out.keep g1)
        clear g1 G0 RB0
        go_upto_region 5 with (fail)
        have G2 : Hid (Grows w (w1.alloc (.cells #[.string a, .string b] 41))) := G1.out.alloc _
        have RB2 := Lib.hid (RB1.out.keep ((Grows.refl w1).alloc (.cells #[.string a, .string b] 41)))
        have RF2 := Lib.hid (RfBox.new w1 a b)
        generalize w1.heap.size = b5 at RF2 ⊢
        obtain ⟨w2, hw2⟩ : ∃ w', w1.alloc (.cells #[.string a, .string b] 41) = w' := ⟨_, rfl⟩
        rw [hw2] at G2 RB2 RF2 ⊢
        clear hw2 G1 RB1
        have x0 := RF2.out.c0
        have x1 := RF2.out.c1
        go_upto_region 6 with (fail)
        have G3 : Hid (Grows w (w2.alloc (.cells #[.string a, .string b, .bool false, .string ⟨#[]⟩] 26))) := G2.out.alloc _
        have RB3 := Lib.hid (RB2.out.keep ((Grows.refl w2).alloc (.cells #[.string a, .string b, .bool false, .string ⟨#[]⟩] 26)))
        have EB3 := Lib.hid (EdBox.new w2 a b false ⟨#[]⟩)
        have hgt : w.heap.size < w2.heap.size := RB2.out.lt
        generalize w2.heap.size = b7 at EB3 hgt ⊢
        obtain ⟨w3, hw3⟩ : ∃ w', w2.alloc (.cells #[.string a, .string b, .bool false, .string ⟨#[]⟩] 26) = w' := ⟨_, rfl⟩
        rw [hw3] at G3 RB3 EB3 ⊢
        clear hw3 G2 RB2 RF2 x0 x1
        go_upto_region 8 with (fail)
        clear hw hd h0k hkn hb HI HPA
        have r0 := RB3.out.c0
        have r1 := RB3.out.c1
        have r2 := RB3.out.c2
        have r3 := RB3.out.c3
        have s0 := EB3.out.c0
        have s1 := EB3.out.c1
        have s2 := EB3.out.c2
        have s3 := EB3.out.c3
        have f0 := RB3.out.fr 0
        have f1 := RB3.out.fr 1
        have f2 := RB3.out.fr 2
        have f3 := RB3.out.fr 3
        have p0 := EB3.out.fr 0
        have p1 := EB3.out.fr 1
        have p2 := EB3.out.fr 2
        have p3 := EB3.out.fr 3
        go_upto_region 12 with (fail)
        have G4 : Hid (Grows w (w3.setCell ⟨b7, 2, none⟩ (.bool true))) := G3.out.setCell (show w.heap.size ≤ b7 by omega) _
        have RB4 : Hid (EdBox (w3.setCell ⟨b7, 2, none⟩ (.bool true)) w.heap.size ⟨#[]⟩ ⟨#[]⟩ false ⟨#[]⟩) := row_set RB3.out _ (by omega)
        have EB4 := Lib.hid (EB3.out.set2 true)
        obtain ⟨w4, hw4⟩ : ∃ w', (w3.setCell ⟨b7, 2, none⟩ (.bool true)) = w' := ⟨_, rfl⟩
        rw [hw4] at G4 RB4 EB4 ⊢
        clear hw4 G3 RB3 EB3 r0 r1 r2 r3 s0 s1 s2 s3 f0 f1 f2 f3 p0 p1 p2 p3
        have r0 := RB4.out.c0
        have r1 := RB4.out.c1
        have r2 := RB4.out.c2
        have r3 := RB4.out.c3
        have s0 := EB4.out.c0
        have s1 := EB4.out.c1
        have s2 := EB4.out.c2
        have s3 := EB4.out.c3
        have f0 := RB4.out.fr 0
        have f1 := RB4.out.fr 1
        have f2 := RB4.out.fr 2
        have f3 := RB4.out.fr 3
        have p0 := EB4.out.fr 0
        have p1 := EB4.out.fr 1
        have p2 := EB4.out.fr 2
        have p3 := EB4.out.fr 3
        go_wp2_with fail
        refine (HVE.out _).mono ?_
        rintro e w5 ⟨rfl, g5⟩
        have G5 : Hid (Grows w w5) := G4.out.trans g5
        have RB5 := Lib.hid (RB4.out.keep g5)
        have EB5 := Lib.hid (EB4.out.keep g5)
        clear g5 G4 RB4 EB4 r0 r1 r2 r3 s0 s1 s2 s3 f0 f1 f2 f3 p0 p1 p2 p3
        have r0 := RB5.out.c0
        have r1 := RB5.out.c1
        have r2 := RB5.out.c2
        have r3 := RB5.out.c3
        have s0 := EB5.out.c0
        have s1 := EB5.out.c1
        have s2 := EB5.out.c2
        have s3 := EB5.out.c3
        have f0 := RB5.out.fr 0
        have f1 := RB5.out.fr 1
        have f2 := RB5.out.fr 2
        have f3 := RB5.out.fr 3
        have p0 := EB5.out.fr 0
        have p1 := EB5.out.fr 1
        have p2 := EB5.out.fr 2
        have p3 := EB5.out.fr 3
        go_wp2
        refine bodyPost_ret (v := .tuple #[.agg #[.string a, .string b, .bool true, .string ⟨#[]⟩], .bool true]) (by simp [results, Tryd.results11, go_sem, r0, r1, r2, r3]) rfl ⟨rfl, ?_⟩
        exact (((G5.out.setCell (by exact Nat.le_refl _) _).setCell (by exact Nat.le_refl _) _).setCell (by exact Nat.le_refl _) _).setCell (by exact Nat.le_refl _) _
      · have hp' : parB wh = false := by simpa using hp
        have hf : pedB s = false := by rw [HPB.out, hp', Bool.false_and]
        obtain ⟨e1, e2, e3, e4⟩ := HNO.out hf
        rw [e1, e2, e3, e4, hf]
        clear e1 e2 e3 e4 hf HNO HYE
        rw [hp'] at HPA
        clear hp hp' hdd HPB HR1 HVP HDR HPR HVL HPV hpv
        go_enter Tryd.func11, Tryd.ntmps11
        go_upto_region 1 with (fail)
        have G0 : Hid (Grows w (w.alloc (.cells #[.string ⟨#[]⟩, .string ⟨#[]⟩, .bool false, .string ⟨#[]⟩] 26))) := (Grows.refl w).alloc _
        have RB0 := Lib.hid (EdBox.new w ⟨#[]⟩ ⟨#[]⟩ false ⟨#[]⟩)
        obtain ⟨w0, hw0⟩ : ∃ w0, w.alloc (.cells #[.string ⟨#[]⟩, .string ⟨#[]⟩, .bool false, .string ⟨#[]⟩] 26) = w0 := ⟨_, rfl⟩
        rw [hw0] at G0 RB0 ⊢
        clear hw0
        go_wp2_with fail
        refine (HI.out _).mono ?_
        rintro e w' ⟨rfl, rfl⟩
        go_wp2_with fail
        refine (HPA.out _).mono ?_
        rintro e w1 ⟨rfl, g1⟩
        have G1 : Hid (Grows w w1) := G0.out.trans g1
        have RB1 := Lib.hid (RB0.out.keep g1)
        clear g1 G0 RB0
        go_upto_region 5 with (fail)
        have G2 : Hid (Grows w (w1.alloc (.cells #[.string a, .string b] 41))) := G1.out.alloc _
        have RB2 := Lib.hid (RB1.out.keep ((Grows.refl w1).alloc (.cells #[.string a, .string b] 41)))
        have RF2 := Lib.hid (RfBox.new w1 a b)
        generalize w1.heap.size = b5 at RF2 ⊢
        obtain ⟨w2, hw2⟩ : ∃ w', w1.alloc (.cells #[.string a, .string b] 41) = w' := ⟨_, rfl⟩
        rw [hw2] at G2 RB2 RF2 ⊢
        clear hw2 G1 RB1
        have x0 := RF2.out.c0
        have x1 := RF2.out.c1
        go_upto_region 6 with (fail)
        have G3 : Hid (Grows w (w2.alloc (.cells #[.string a, .string b, .bool false, .string ⟨#[]⟩] 26))) := G2.out.alloc _
        have RB3 := Lib.hid (RB2.out.keep ((Grows.refl w2).alloc (.cells #[.string a, .string b, .bool false, .string ⟨#[]⟩] 26)))
        have EB3 := Lib.hid (EdBox.new w2 a b false ⟨#[]⟩)
        have hgt : w.heap.size < w2.heap.size := RB2.out.lt
        generalize w2.heap.size = b7 at EB3 hgt ⊢
        obtain ⟨w3, hw3⟩ : ∃ w', w2.alloc (.cells #[.string a, .string b, .bool false, .string ⟨#[]⟩] 26) = w' := ⟨_, rfl⟩
        rw [hw3] at G3 RB3 EB3 ⊢
        clear hw3 G2 RB2 RF2 x0 x1
        go_upto_region 8 with (fail)
        clear hw hd h0k hkn hb HI HPA
        have r0 := RB3.out.c0
        have r1 := RB3.out.c1
        have r2 := RB3.out.c2
        have r3 := RB3.out.c3
        have s0 := EB3.out.c0
        have s1 := EB3.out.c1
        have s2 := EB3.out.c2
        have s3 := EB3.out.c3
        have f0 := RB3.out.fr 0
        have f1 := RB3.out.fr 1
        have f2 := RB3.out.fr 2
        have f3 := RB3.out.fr 3
        have p0 := EB3.out.fr 0
        have p1 := EB3.out.fr 1
        have p2 := EB3.out.fr 2
        have p3 := EB3.out.fr 3
        go_upto_region 12 with (fail)
        have G4 : Hid (Grows w (w3.setCell ⟨b7, 2, none⟩ (.bool true))) := G3.out.setCell (show w.heap.size ≤ b7 by omega) _
        have RB4 : Hid (EdBox (w3.setCell ⟨b7, 2, none⟩ (.bool true)) w.heap.size ⟨#[]⟩ ⟨#[]⟩ false ⟨#[]⟩) := row_set RB3.out _ (by omega)
        have EB4 := Lib.hid (EB3.out.set2 true)
        obtain ⟨w4, hw4⟩ : ∃ w', (w3.setCell ⟨b7, 2, none⟩ (.bool true)) = w' := ⟨_, rfl⟩
        rw [hw4] at G4 RB4 EB4 ⊢
        clear hw4 G3 RB3 EB3 r0 r1 r2 r3 s0 s1 s2 s3 f0 f1 f2 f3 p0 p1 p2 p3
        have r0 := RB4.out.c0
        have r1 := RB4.out.c1
        have r2 := RB4.out.c2
        have r3 := RB4.out.c3
        have s0 := EB4.out.c0
        have s1 := EB4.out.c1
        have s2 := EB4.out.c2
        have s3 := EB4.out.c3
        have f0 := RB4.out.fr 0
        have f1 := RB4.out.fr 1
        have f2 := RB4.out.fr 2
        have f3 := RB4.out.fr 3
        have p0 := EB4.out.fr 0
        have p1 := EB4.out.fr 1
        have p2 := EB4.out.fr 2
        have p3 := EB4.out.fr 3
        go_wp2
        refine bodyPost_ret (v := .tuple #[.agg #[.string ⟨#[]⟩, .string ⟨#[]⟩, .bool false, .string ⟨#[]⟩], .bool false]) (by simp [results, Tryd.results11, go_sem, r0, r1, r2, r3]) rfl ⟨rfl, ?_⟩
        exact (((G4.out.setCell (by exact Nat.le_refl _) _).setCell (by exact Nat.le_refl _) _).setCell (by exact Nat.le_refl _) _).setCell (by exact Nat.le_refl _) _
    · have hdd' : eDrop s = false := by simpa using hdd
      have hqd : (q.toList == [45]) = false := by rw [← HDR.out]; exact hdd'
      have hpv : pedV s = q.extract 2 q.size := by rw [HPV.out, if_neg hdd, HVL.out]
      clear hdd
      have hdd := hdd'
      clear hdd'
      by_cases hpr : ePre s = true
      · have h2 : 2 ≤ q.size := by
          rcases Nat.lt_or_ge q.size 2 with h | h
          · rw [HPR.out, pre_short q h] at hpr; cases hpr
          · exact h
        have hxx : ((q.extract 0 2).toList == [61, 32]) = true := by rw [pre_two q h2, ← HPR.out]; exact hpr
        have h2i : (2 : Int) ≤ (q.size : Int) := by omega
        have hql : (q.size : Int) ≤ 1048576 := by omega
        by_cases hp : parB wh = true
        · by_cases hvv : vvalue (q.extract 2 q.size) = true
          · have hf : pedB s = true := by rw [HPB.out, hp, hdd, hpr, HVL.out, hvv]; rfl
            obtain ⟨e1, e2, e3, e4⟩ := HYE.out hf
            obtain ⟨z1, z2⟩ := HR1.out hp
            rw [z1] at e1
            rw [z2] at e2
            rw [hdd] at e3
            rw [hpv] at e4
            rw [e1, e2, e3, e4, hf]
            clear e1 e2 e3 e4 hf z1 z2 hpv HNO HYE
            have hve := vedit_ok (d := false) (HVP.out hp) hvv (fun h => by cases h)
            have HVE := Lib.hid (fun w => specVEd_any a b false (q.extract 2 q.size) w hpl hkl (Nat.le_trans (extract_le _ _ _) (by omega)))
            rw [hve] at HVE
            rw [hp] at HPA
            clear hve hp hdd HPB HR1 HVP HDR HPR HVL HPV hvv hpr
            go_enter Tryd.func11, Tryd.ntmps11
            go_upto_region 1 with (fail)
            have G0 : Hid (Grows w (w.alloc (.cells #[.string ⟨#[]⟩, .string ⟨#[]⟩, .bool false, .string ⟨#[]⟩] 26))) := (Grows.refl w).alloc _
            have RB0 := Lib.hid (EdBox.new w ⟨#[]⟩ ⟨#[]⟩ false ⟨#[]⟩)
            obtain ⟨w0, hw0⟩ : ∃ w0, w.alloc (.cells #[.string ⟨#[]⟩, .string ⟨#[]⟩, .bool false, .string ⟨#[]⟩] 26) = w0 := ⟨_, rfl⟩
            rw [hw0] at G0 RB0 ⊢
            clear hw0
            go_wp2_with fail
            refine (HI.out _).mono ?_
            rintro e w' ⟨rfl, rfl⟩
            go_wp2_with fail
            refine (HPA.out _).mono ?_
            rintro e w1 ⟨rfl, g1⟩
            have G1 : Hid (Grows w w1) := G0.out.trans g1
            have RB1 := Lib.hid (RB0.out.keep g1)
            clear g1 G0 RB0
            go_upto_region 5 with (fail)
            have G2 : Hid (Grows w (w1.alloc (.cells #[.string a, .string b] 41))) := G1.out.alloc _
            have RB2 := Lib.hid (RB1.out.keep ((Grows.refl w1).alloc (.cells #[.string a, .string b] 41)))
            have RF2 := Lib.hid (RfBox.new w1 a b)
            generalize w1.heap.size = b5 at RF2 ⊢
            obtain ⟨w2, hw2⟩ : ∃ w', w1.alloc (.cells #[.string a, .string b] 41) = w' := ⟨_, rfl⟩
            rw [hw2] at G2 RB2 RF2 ⊢
            clear hw2 G1 RB1
            have x0 := RF2.out.c0
            have x1 := RF2.out.c1
            go_upto_region 6 with (fail)
            have G3 : Hid (Grows w (w2.alloc (.cells #[.string a, .string b, .bool false, .string ⟨#[]⟩] 26))) := G2.out.alloc _
            have RB3 := Lib.hid (RB2.out.keep ((Grows.refl w2).alloc (.cells #[.string a, .string b, .bool false, .string ⟨#[]⟩] 26)))
            have EB3 := Lib.hid (EdBox.new w2 a b false ⟨#[]⟩)
            have hgt : w.heap.size < w2.heap.size := RB2.out.lt
            generalize w2.heap.size = b7 at EB3 hgt ⊢
            obtain ⟨w3, hw3⟩ : ∃ w', w2.alloc (.cells #[.string a, .string b, .bool false, .string ⟨#[]⟩] 26) = w' := ⟨_, rfl⟩
            rw [hw3] at G3 RB3 EB3 ⊢
            clear hw3 G2 RB2 RF2 x0 x1
            go_upto_region 8 with (fail)
            clear hw hd h0k hkn hb HI HPA
            have r0 := RB3.out.c0
            have r1 := RB3.out.c1
            have r2 := RB3.out.c2
            have r3 := RB3.out.c3
            have s0 := EB3.out.c0
            have s1 := EB3.out.c1
            have s2 := EB3.out.c2
            have s3 := EB3.out.c3
            have f0 := RB3.out.fr 0
            have f1 := RB3.out.fr 1
            have f2 := RB3.out.fr 2
            have f3 := RB3.out.fr 3
            have p0 := EB3.out.fr 0
            have p1 := EB3.out.fr 1
            have p2 := EB3.out.fr 2
            have p3 := EB3.out.fr 3
            go_upto_region 12 with (fail)
            have G4 : Hid (Grows w (w3.setCell ⟨b7, 3, none⟩ (.string (q.extract 2 q.size)))) := G3.out.setCell (show w.heap.size ≤ b7 by omega) _
            have RB4 : Hid (EdBox (w3.setCell ⟨b7, 3, none⟩ (.string (q.extract 2 q.size))) w.heap.size ⟨#[]⟩ ⟨#[]⟩ false ⟨#[]⟩) := row_set RB3.out _ (by omega)
            have EB4 := Lib.hid (EB3.out.set3 (q.extract 2 q.size))
            obtain ⟨w4, hw4⟩ : ∃ w', (w3.setCell ⟨b7, 3, none⟩ (.string (q.extract 2 q.size))) = w' := ⟨_, rfl⟩
            rw [hw4] at G4 RB4 EB4 ⊢
            clear hw4 G3 RB3 EB3 r0 r1 r2 r3 s0 s1 s2 s3 f0 f1 f2 f3 p0 p1 p2 p3
            have r0 := RB4.out.c0
            have r1 := RB4.out.c1
            have r2 := RB4.out.c2
            have r3 := RB4.out.c3
            have s0 := EB4.out.c0
            have s1 := EB4.out.c1
            have s2 := EB4.out.c2
            have s3 := EB4.out.c3
            have f0 := RB4.out.fr 0
            have f1 := RB4.out.fr 1
            have f2 := RB4.out.fr 2
            have f3 := RB4.out.fr 3
            have p0 := EB4.out.fr 0
            have p1 := EB4.out.fr 1
            have p2 := EB4.out.fr 2
            have p3 := EB4.out.fr 3
            go_wp2_with fail
            refine (HVE.out _).mono ?_
            rintro e w5 ⟨rfl, g5⟩
            have G5 : Hid (Grows w w5) := G4.out.trans g5
            have RB5 := Lib.hid (RB4.out.keep g5)
            have EB5 := Lib.hid (EB4.out.keep g5)
            clear g5 G4 RB4 EB4 r0 r1 r2 r3 s0 s1 s2 s3 f0 f1 f2 f3 p0 p1 p2 p3
            have r0 := RB5.out.c0
            have r1 := RB5.out.c1
            have r2 := RB5.out.c2
            have r3 := RB5.out.c3
            have s0 := EB5.out.c0
            have s1 := EB5.out.c1
            have s2 := EB5.out.c2
            have s3 := EB5.out.c3
            have f0 := RB5.out.fr 0
            have f1 := RB5.out.fr 1
            have f2 := RB5.out.fr 2
            have f3 := RB5.out.fr 3
            have p0 := EB5.out.fr 0
            have p1 := EB5.out.fr 1
            have p2 := EB5.out.fr 2
            have p3 := EB5.out.fr 3
            go_wp2
            refine bodyPost_ret (v := .tuple #[.agg #[.string a, .string b, .bool false, .string (q.extract 2 q.size)], .bool true]) (by simp [results, Tryd.results11, go_sem, r0, r1, r2, r3]) rfl ⟨rfl, ?_⟩
            exact (((G5.out.setCell (by exact Nat.le_refl _) _).setCell (by exact Nat.le_refl _) _).setCell (by exact Nat.le_refl _) _).setCell (by exact Nat.le_refl _) _
          · have hvv' : vvalue (q.extract 2 q.size) = false := by simpa using hvv
            have hf : pedB s = false := by rw [HPB.out, hdd, HVL.out, hvv']; simp
            obtain ⟨e1, e2, e3, e4⟩ := HNO.out hf
            rw [e1, e2, e3, e4, hf]
            clear e1 e2 e3 e4 hf HNO HYE
            have hve := vedit_value a b false hvv'
            have HVE := Lib.hid (fun w => specVEd_any a b false (q.extract 2 q.size) w hpl hkl (Nat.le_trans (extract_le _ _ _) (by omega)))
            rw [hve] at HVE
            rw [hp] at HPA
            clear hve hp hdd HPB HR1 HVP HDR HPR HVL HPV hvv hvv' hpr hpv
            go_enter Tryd.func11, Tryd.ntmps11
            go_upto_region 1 with (fail)
            have G0 : Hid (Grows w (w.alloc (.cells #[.string ⟨#[]⟩, .string ⟨#[]⟩, .bool false, .string ⟨#[]⟩] 26))) := (Grows.refl w).alloc _
            have RB0 := Lib.hid (EdBox.new w ⟨#[]⟩ ⟨#[]⟩ false ⟨#[]⟩)
            obtain ⟨w0, hw0⟩ : ∃ w0, w.alloc (.cells #[.string ⟨#[]⟩, .string ⟨#[]⟩, .bool false, .string ⟨#[]⟩] 26) = w0 := ⟨_, rfl⟩
            rw [hw0] at G0 RB0 ⊢
            clear hw0
            go_wp2_with fail
            refine (HI.out _).mono ?_
            rintro e w' ⟨rfl, rfl⟩
            go_wp2_with fail
            refine (HPA.out _).mono ?_
            rintro e w1 ⟨rfl, g1⟩
            have G1 : Hid (Grows w w1) := G0.out.trans g1
            have RB1 := Lib.hid (RB0.out.keep g1)
            clear g1 G0 RB0
            go_upto_region 5 with (fail)
            have G2 : Hid (Grows w (w1.alloc (.cells #[.string a, .string b] 41))) := G1.out.alloc _
            have RB2 := Lib.hid (RB1.out.keep ((Grows.refl w1).alloc (.cells #[.string a, .string b] 41)))
            have RF2 := Lib.hid (RfBox.new w1 a b)
            generalize w1.heap.size = b5 at RF2 ⊢
            obtain ⟨w2, hw2⟩ : ∃ w', w1.alloc (.cells #[.string a, .string b] 41) = w' := ⟨_, rfl⟩
            rw [hw2] at G2 RB2 RF2 ⊢
            clear hw2 G1 RB1
            have x0 := RF2.out.c0
            have x1 := RF2.out.c1
            go_upto_region 6 with (fail)
            have G3 : Hid (Grows w (w2.alloc (.cells #[.string a, .string b, .bool false, .string ⟨#[]⟩] 26))) := G2.out.alloc _
            have RB3 := Lib.hid (RB2.out.keep ((Grows.refl w2).alloc (.cells #[.string a, .string b, .bool false, .string ⟨#[]⟩] 26)))
            have EB3 := Lib.hid (EdBox.new w2 a b false ⟨#[]⟩)
            have hgt : w.heap.size < w2.heap.size := RB2.out.lt
            generalize w2.heap.size = b7 at EB3 hgt ⊢
            obtain ⟨w3, hw3⟩ : ∃ w', w2.alloc (.cells #[.string a, .string b, .bool false, .string ⟨#[]⟩] 26) = w' := ⟨_, rfl⟩
            rw [hw3] at G3 RB3 EB3 ⊢
            clear hw3 G2 RB2 RF2 x0 x1
            go_upto_region 8 with (fail)
            clear hw hd h0k hkn hb HI HPA
            have r0 := RB3.out.c0
            have r1 := RB3.out.c1
            have r2 := RB3.out.c2
            have r3 := RB3.out.c3
            have s0 := EB3.out.c0
            have s1 := EB3.out.c1
            have s2 := EB3.out.c2
            have s3 := EB3.out.c3
            have f0 := RB3.out.fr 0
            have f1 := RB3.out.fr 1
            have f2 := RB3.out.fr 2
            have f3 := RB3.out.fr 3
            have p0 := EB3.out.fr 0
            have p1 := EB3.out.fr 1
            have p2 := EB3.out.fr 2
            have p3 := EB3.out.fr 3
            go_upto_region 12 with (fail)
            have G4 : Hid (Grows w (w3.setCell ⟨b7, 3, none⟩ (.string (q.extract 2 q.size)))) := G3.out.setCell (show w.heap.size ≤ b7 by omega) _
            have RB4 : Hid (EdBox (w3.setCell ⟨b7, 3, none⟩ (.string (q.extract 2 q.size))) w.heap.size ⟨#[]⟩ ⟨#[]⟩ false ⟨#[]⟩) := row_set RB3.out _ (by omega)
            have EB4 := Lib.hid (EB3.out.set3 (q.extract 2 q.size))
            obtain ⟨w4, hw4⟩ : ∃ w', (w3.setCell ⟨b7, 3, none⟩ (.string (q.extract 2 q.size))) = w' := ⟨_, rfl⟩
            rw [hw4] at G4 RB4 EB4 ⊢
            clear hw4 G3 RB3 EB3 r0 r1 r2 r3 s0 s1 s2 s3 f0 f1 f2 f3 p0 p1 p2 p3
            have r0 := RB4.out.c0
            have r1 := RB4.out.c1
            have r2 := RB4.out.c2
            have r3 := RB4.out.c3
            have s0 := EB4.out.c0
            have s1 := EB4.out.c1
            have s2 := EB4.out.c2
            have s3 := EB4.out.c3
            have f0 := RB4.out.fr 0
            have f1 := RB4.out.fr 1
            have f2 := RB4.out.fr 2
            have f3 := RB4.out.fr 3
            have p0 := EB4.out.fr 0
            have p1 := EB4.out.fr 1
            have p2 := EB4.out.fr 2
            have p3 := EB4.out.fr 3
            go_wp2_with fail
            refine (HVE.out _).mono ?_
            rintro e w5 ⟨rfl, g5⟩
            have G5 : Hid (Grows w w5) := G4.out.trans g5
            have RB5 := Lib.hid (RB4.out.keep g5)
            have EB5 := Lib.hid (EB4.out.keep g5)
            clear g5 G4 RB4 EB4 r0 r1 r2 r3 s0 s1 s2 s3 f0 f1 f2 f3 p0 p1 p2 p3
            have r0 := RB5.out.c0
            have r1 := RB5.out.c1
            have r2 := RB5.out.c2
            have r3 := RB5.out.c3
            have s0 := EB5.out.c0
            have s1 := EB5.out.c1
            have s2 := EB5.out.c2
            have s3 := EB5.out.c3
            have f0 := RB5.out.fr 0
            have f1 := RB5.out.fr 1
            have f2 := RB5.out.fr 2
            have f3 := RB5.out.fr 3
            have p0 := EB5.out.fr 0
            have p1 := EB5.out.fr 1
            have p2 := EB5.out.fr 2
            have p3 := EB5.out.fr 3
            go_wp2
            refine bodyPost_ret (v := .tuple #[.agg #[.string ⟨#[]⟩, .string ⟨#[]⟩, .bool false, .string ⟨#[]⟩], .bool false]) (by simp [results, Tryd.results11, go_sem, r0, r1, r2, r3]) rfl ⟨rfl, ?_⟩
            exact (((G5.out.setCell (by exact Nat.le_refl _) _).setCell (by exact Nat.le_refl _) _).setCell (by exact Nat.le_refl _) _).setCell (by exact Nat.le_refl _) _
        · have hp' : parB wh = false := by simpa using hp
          have hf : pedB s = false := by rw [HPB.out, hp', Bool.false_and]
          obtain ⟨e1, e2, e3, e4⟩ := HNO.out hf
          rw [e1, e2, e3, e4, hf]
          clear e1 e2 e3 e4 hf HNO HYE
          rw [hp'] at HPA
          clear hp hp' hdd HPB HR1 HVP HDR HPR HVL HPV hpv hpr
          go_enter Tryd.func11, Tryd.ntmps11
          go_upto_region 1 with (fail)
          have G0 : Hid (Grows w (w.alloc (.cells #[.string ⟨#[]⟩, .string ⟨#[]⟩, .bool false, .string ⟨#[]⟩] 26))) := (Grows.refl w).alloc _
          have RB0 := Lib.hid (EdBox.new w ⟨#[]⟩ ⟨#[]⟩ false ⟨#[]⟩)
          obtain ⟨w0, hw0⟩ : ∃ w0, w.alloc (.cells #[.string ⟨#[]⟩, .string ⟨#[]⟩, .bool false, .string ⟨#[]⟩] 26) = w0 := ⟨_, rfl⟩
          rw [hw0] at G0 RB0 ⊢
          clear hw0
          go_wp2_with fail
          refine (HI.out _).mono ?_
          rintro e w' ⟨rfl, rfl⟩
          go_wp2_with fail
          refine (HPA.out _).mono ?_
          rintro e w1 ⟨rfl, g1⟩
          have G1 : Hid (Grows w w1) := G0.out.trans g1
          have RB1 := Lib.hid (RB0.out.keep g1)
          clear g1 G0 RB0
          go_upto_region 5 with (fail)
          have G2 : Hid (Grows w (w1.alloc (.cells #[.string a, .string b] 41))) := G1.out.alloc _
          have RB2 := Lib.hid (RB1.out.keep ((Grows.refl w1).alloc (.cells #[.string a, .string b] 41)))
          have RF2 := Lib.hid (RfBox.new w1 a b)
          generalize w1.heap.size = b5 at RF2 ⊢
          obtain ⟨w2, hw2⟩ : ∃ w', w1.alloc (.cells #[.string a, .string b] 41) = w' := ⟨_, rfl⟩
          rw [hw2] at G2 RB2 RF2 ⊢
          clear hw2 G1 RB1
          have x0 := RF2.out.c0
          have x1 := RF2.out.c1
          go_upto_region 6 with (fail)
          have G3 : Hid (Grows w (w2.alloc (.cells #[.string a, .string b, .bool false, .string ⟨#[]⟩] 26))) := G2.out.alloc _
          have RB3 := Lib.hid (RB2.out.keep ((Grows.refl w2).alloc (.cells #[.string a, .string b, .bool false, .string ⟨#[]⟩] 26)))
          have EB3 := Lib.hid (EdBox.new w2 a b false ⟨#[]⟩)
          have hgt : w.heap.size < w2.heap.size := RB2.out.lt
          generalize w2.heap.size = b7 at EB3 hgt ⊢
          obtain ⟨w3, hw3⟩ : ∃ w', w2.alloc (.cells #[.string a, .string b, .bool false, .string ⟨#[]⟩] 26) = w' := ⟨_, rfl⟩
          rw [hw3] at G3 RB3 EB3 ⊢
          clear hw3 G2 RB2 RF2 x0 x1
          go_upto_region 8 with (fail)
          clear hw hd h0k hkn hb HI HPA
          have r0 := RB3.out.c0
          have r1 := RB3.out.c1
          have r2 := RB3.out.c2
          have r3 := RB3.out.c3
          have s0 := EB3.out.c0
          have s1 := EB3.out.c1
          have s2 := EB3.out.c2
          have s3 := EB3.out.c3
          have f0 := RB3.out.fr 0
          have f1 := RB3.out.fr 1
          have f2 := RB3.out.fr 2
          have f3 := RB3.out.fr 3
          have p0 := EB3.out.fr 0
          have p1 := EB3.out.fr 1
          have p2 := EB3.out.fr 2
          have p3 := EB3.out.fr 3
          go_upto_region 12 with (fail)
          have G4 : Hid (Grows w (w3.setCell ⟨b7, 3, none⟩ (.string (q.extract 2 q.size)))) := G3.out.setCell (show w.heap.size ≤ b7 by omega) _
          have RB4 : Hid (EdBox (w3.setCell ⟨b7, 3, none⟩ (.string (q.extract 2 q.size))) w.heap.size ⟨#[]⟩ ⟨#[]⟩ false ⟨#[]⟩) := row_set RB3.out _ (by omega)
          have EB4 := Lib.hid (EB3.out.set3 (q.extract 2 q.size))
          obtain ⟨w4, hw4⟩ : ∃ w', (w3.setCell ⟨b7, 3, none⟩ (.string (q.extract 2 q.size))) = w' := ⟨_, rfl⟩
          rw [hw4] at G4 RB4 EB4 ⊢
          clear hw4 G3 RB3 EB3 r0 r1 r2 r3 s0 s1 s2 s3 f0 f1 f2 f3 p0 p1 p2 p3
          have r0 := RB4.out.c0
          have r1 := RB4.out.c1
          have r2 := RB4.out.c2
          have r3 := RB4.out.c3
          have s0 := EB4.out.c0
          have s1 := EB4.out.c1
          have s2 := EB4.out.c2
          have s3 := EB4.out.c3
          have f0 := RB4.out.fr 0
          have f1 := RB4.out.fr 1
          have f2 := RB4.out.fr 2
          have f3 := RB4.out.fr 3
          have p0 := EB4.out.fr 0
          have p1 := EB4.out.fr 1
          have p2 := EB4.out.fr 2
          have p3 := EB4.out.fr 3
          go_wp2
          refine bodyPost_ret (v := .tuple #[.agg #[.string ⟨#[]⟩, .string ⟨#[]⟩, .bool false, .string ⟨#[]⟩], .bool false]) (by simp [results, Tryd.results11, go_sem, r0, r1, r2, r3]) rfl ⟨rfl, ?_⟩
          exact (((G4.out.setCell (by exact Nat.le_refl _) _).setCell (by exact Nat.le_refl _) _).setCell (by exact Nat.le_refl _) _).setCell (by exact Nat.le_refl _) _
      · have hpr' : ePre s = false := by simpa using hpr
        have hf : pedB s = false := by rw [HPB.out, hdd, hpr']; simp
        have hql : (q.size : Int) ≤ 1048576 := by omega
        obtain ⟨e1, e2, e3, e4⟩ := HNO.out hf
        rw [e1, e2, e3, e4, hf]
        clear e1 e2 e3 e4 hf HNO HYE
        rcases Nat.lt_or_ge q.size 2 with h2 | h2
        · have h2i : (q.size : Int) < 2 := by omega
          clear hdd HPB HR1 HVP HDR HPR HVL HPV hpv hpr hpr'
          go_enter Tryd.func11, Tryd.ntmps11
          go_upto_region 1 with (fail)
          have G0 : Hid (Grows w (w.alloc (.cells #[.string ⟨#[]⟩, .string ⟨#[]⟩, .bool false, .string ⟨#[]⟩] 26))) := (Grows.refl w).alloc _
          have RB0 := Lib.hid (EdBox.new w ⟨#[]⟩ ⟨#[]⟩ false ⟨#[]⟩)
          obtain ⟨w0, hw0⟩ : ∃ w0, w.alloc (.cells #[.string ⟨#[]⟩, .string ⟨#[]⟩, .bool false, .string ⟨#[]⟩] 26) = w0 := ⟨_, rfl⟩
          rw [hw0] at G0 RB0 ⊢
          clear hw0
          go_wp2_with fail
          refine (HI.out _).mono ?_
          rintro e w' ⟨rfl, rfl⟩
          go_wp2_with fail
          refine (HPA.out _).mono ?_
          rintro e w1 ⟨rfl, g1⟩
          have G1 : Hid (Grows w w1) := G0.out.trans g1
          have RB1 := Lib.hid (RB0.out.keep g1)
          clear g1 G0 RB0
          go_upto_region 5 with (fail)
          have G2 : Hid (Grows w (w1.alloc (.cells #[.string a, .string b] 41))) := G1.out.alloc _
          have RB2 := Lib.hid (RB1.out.keep ((Grows.refl w1).alloc (.cells #[.string a, .string b] 41)))
          have RF2 := Lib.hid (RfBox.new w1 a b)
          generalize w1.heap.size = b5 at RF2 ⊢
          obtain ⟨w2, hw2⟩ : ∃ w', w1.alloc (.cells #[.string a, .string b] 41) = w' := ⟨_, rfl⟩
          rw [hw2] at G2 RB2 RF2 ⊢
          clear hw2 G1 RB1
          have x0 := RF2.out.c0
          have x1 := RF2.out.c1
          go_upto_region 6 with (fail)
          have G3 : Hid (Grows w (w2.alloc (.cells #[.string a, .string b, .bool false, .string ⟨#[]⟩] 26))) := G2.out.alloc _
          have RB3 := Lib.hid (RB2.out.keep ((Grows.refl w2).alloc (.cells #[.string a, .string b, .bool false, .string ⟨#[]⟩] 26)))
          have EB3 := Lib.hid (EdBox.new w2 a b false ⟨#[]⟩)
          have hgt : w.heap.size < w2.heap.size := RB2.out.lt
          generalize w2.heap.size = b7 at EB3 hgt ⊢
          obtain ⟨w3, hw3⟩ : ∃ w', w2.alloc (.cells #[.string a, .string b, .bool false, .string ⟨#[]⟩] 26) = w' := ⟨_, rfl⟩
          rw [hw3] at G3 RB3 EB3 ⊢
          clear hw3 G2 RB2 RF2 x0 x1
          go_upto_region 8 with (fail)
          clear hw hd h0k hkn hb HI HPA
          have r0 := RB3.out.c0
          have r1 := RB3.out.c1
          have r2 := RB3.out.c2
          have r3 := RB3.out.c3
          have s0 := EB3.out.c0
          have s1 := EB3.out.c1
          have s2 := EB3.out.c2
          have s3 := EB3.out.c3
          have f0 := RB3.out.fr 0
          have f1 := RB3.out.fr 1
          have f2 := RB3.out.fr 2
          have f3 := RB3.out.fr 3
          have p0 := EB3.out.fr 0
          have p1 := EB3.out.fr 1
          have p2 := EB3.out.fr 2
          have p3 := EB3.out.fr 3
          go_wp2
          refine bodyPost_ret (v := .tuple #[.agg #[.string ⟨#[]⟩, .string ⟨#[]⟩, .bool false, .string ⟨#[]⟩], .bool false]) (by simp [results, Tryd.results11, go_sem, r0, r1, r2, r3]) rfl ⟨rfl, ?_⟩
          exact (((G3.out.setCell (by exact Nat.le_refl _) _).setCell (by exact Nat.le_refl _) _).setCell (by exact Nat.le_refl _) _).setCell (by exact Nat.le_refl _) _
        · have hxx : ((q.extract 0 2).toList == [61, 32]) = false := by rw [pre_two q h2, ← HPR.out]; exact hpr'
          have h2i : (2 : Int) ≤ (q.size : Int) := by omega
          clear hdd HPB HR1 HVP HDR HPR HVL HPV hpv hpr hpr'
          go_enter Tryd.func11, Tryd.ntmps11
          go_upto_region 1 with (fail)
          have G0 : Hid (Grows w (w.alloc (.cells #[.string ⟨#[]⟩, .string ⟨#[]⟩, .bool false, .string ⟨#[]⟩] 26))) := (Grows.refl w).alloc _
          have RB0 := Lib.hid (EdBox.new w ⟨#[]⟩ ⟨#[]⟩ false ⟨#[]⟩)
          obtain ⟨w0, hw0⟩ : ∃ w0, w.alloc (.cells #[.string ⟨#[]⟩, .string ⟨#[]⟩, .bool false, .string ⟨#[]⟩] 26) = w0 := ⟨_, rfl⟩
          rw [hw0] at G0 RB0 ⊢
          clear hw0
          go_wp2_with fail
          refine (HI.out _).mono ?_
          rintro e w' ⟨rfl, rfl⟩
          go_wp2_with fail
          refine (HPA.out _).mono ?_
          rintro e w1 ⟨rfl, g1⟩
          have G1 : Hid (Grows w w1) := G0.out.trans g1
          have RB1 := Lib.hid (RB0.out.keep g1)
          clear g1 G0 RB0
          go_upto_region 5 with (fail)
          have G2 : Hid (Grows w (w1.alloc (.cells #[.string a, .string b] 41))) := G1.out.alloc _
          have RB2 := Lib.hid (RB1.out.keep ((Grows.refl w1).alloc (.cells #[.string a, .string b] 41)))
          have RF2 := Lib.hid (RfBox.new w1 a b)
          generalize w1.heap.size = b5 at RF2 ⊢
          obtain ⟨w2, hw2⟩ : ∃ w', w1.alloc (.cells #[.string a, .string b] 41) = w' := ⟨_, rfl⟩
          rw [hw2] at G2 RB2 RF2 ⊢
          clear hw2 G1 RB1
          have x0 := RF2.out.c0
          have x1 := RF2.out.c1
          go_upto_region 6 with (fail)
          have G3 : Hid (Grows w (w2.alloc (.cells #[.string a, .string b, .bool false, .string ⟨#[]⟩] 26))) := G2.out.alloc _
          have RB3 := Lib.hid (RB2.out.keep ((Grows.refl w2).alloc (.cells #[.string a, .string b, .bool false, .string ⟨#[]⟩] 26)))
          have EB3 := Lib.hid (EdBox.new w2 a b false ⟨#[]⟩)
          have hgt : w.heap.size < w2.heap.size := RB2.out.lt
          generalize w2.heap.size = b7 at EB3 hgt ⊢
          obtain ⟨w3, hw3⟩ : ∃ w', w2.alloc (.cells #[.string a, .string b, .bool false, .string ⟨#[]⟩] 26) = w' := ⟨_, rfl⟩
          rw [hw3] at G3 RB3 EB3 ⊢
          clear hw3 G2 RB2 RF2 x0 x1
          go_upto_region 8 with (fail)
          clear hw hd h0k hkn hb HI HPA
          have r0 := RB3.out.c0
          have r1 := RB3.out.c1
          have r2 := RB3.out.c2
          have r3 := RB3.out.c3
          have s0 := EB3.out.c0
          have s1 := EB3.out.c1
          have s2 := EB3.out.c2
          have s3 := EB3.out.c3
          have f0 := RB3.out.fr 0
          have f1 := RB3.out.fr 1
          have f2 := RB3.out.fr 2
          have f3 := RB3.out.fr 3
          have p0 := EB3.out.fr 0
          have p1 := EB3.out.fr 1
          have p2 := EB3.out.fr 2
          have p3 := EB3.out.fr 3
          go_wp2
          refine bodyPost_ret (v := .tuple #[.agg #[.string ⟨#[]⟩, .string ⟨#[]⟩, .bool false, .string ⟨#[]⟩], .bool false]) (by simp [results, Tryd.results11, go_sem, r0, r1, r2, r3]) rfl ⟨rfl, ?_⟩
          exact (((G3.out.setCell (by exact Nat.le_refl _) _).setCell (by exact Nat.le_refl _) _).setCell (by exact Nat.le_refl _) _).setCell (by exact Nat.le_refl _) _
  · have HF : Hid (pedB s = false) := by unfold Hid; rw [HPB.out, decide_eq_false hb]; rfl
    obtain ⟨e1, e2, e3, e4⟩ := ed_no HF.out
    rw [e1, e2, e3, e4, HF.out]
    rw [blIx_no hb] at HI
    clear hb HPB HF e1 e2 e3 e4
    go_enter Tryd.func11, Tryd.ntmps11
    go_upto_region 1 with (fail)
    go_wp2_with fail
    refine (HI.out _).mono ?_
    rintro e w' ⟨rfl, rfl⟩
    go_wp2
    refine bodyPost_ret (v := .tuple #[.agg #[.string ⟨#[]⟩, .string ⟨#[]⟩, .bool false, .string ⟨#[]⟩], .bool false]) (by simp [results, Tryd.results11, go_sem]) rfl ⟨rfl, (Grows.refl _).alloc _⟩

set_option maxHeartbeats 1000000 in
theorem cutBl_any (s : ByteArray) (w : World) (hs : s.size ≤ 1048576) :
    ∃ β : Bool, Calls Tryd.prog 23 #[.string s, .string ⟨#[32]⟩] w fun e w' => e = .returned (.tuple #[.string (eWhere s), .string (eDoes s), .bool β]) ∧ ∃ n, w' = w.drewN n := by
  by_cases hb : blAt s.data.toList < s.size
  · refine ⟨true, ?_⟩
    unfold eWhere eDoes
    rw [if_pos hb, if_pos hb]
    exact cutBl_yes s w (by unfold maxLen; omega) _ hb rfl
  · refine ⟨false, ?_⟩
    unfold eWhere eDoes
    rw [if_neg hb, if_neg hb]
    exact cutBl_no s w hb

set_option maxHeartbeats 4000000 in
theorem implPEd_any (s : ByteArray) (w : World) (hs : s.size ≤ 1048576) :
    Calls Tryd.prog 12 #[.string s] w fun e w' => e = .returned (.tuple #[.agg #[.string (edS s), .string (edK s), .bool (edD s), .string (edV s)], .bool (pedB s)]) ∧ Grows w w' := by
  have HCT := Lib.hid (fun w => cutBl_any s w hs)
  have HPB := Lib.hid (ped_test s)
  have hwl := eWhere_le s
  have hdl := eDoes_le s
  have hvl := ePV_le s
  have hal := Nat.le_trans (resS_le (eWhere s)) (Nat.le_trans hwl hs)
  have hbl := Nat.le_trans (resK_le (eWhere s)) (Nat.le_trans hwl hs)
  have HPP := Lib.hid (fun w => implParse_any (eWhere s) w (by omega))
  have HDR : Hid (eDrop s = ((eDoes s).toList == [45])) := rfl
  have HPR : Hid (ePre s = Lib.hasPrefix (eDoes s).data.toList [61, 32]) := rfl
  have HVL : Hid (eVal s = (eDoes s).extract 2 (eDoes s).size) := rfl
  have HEV : Hid (ePV s = if eDrop s = true then ⟨#[]⟩ else if ePre s = true then eVal s else eDoes s) := rfl
  have HTP := Lib.hid (fun w => Tryd.strings_TrimPrefix (eDoes s) ⟨#[61, 32]⟩ w)
  rw [trim_val] at HTP
  have HPE : Hid (pedB s = true → ePV s = pedV s) := fun h => by
    have h0 := h
    unfold pedB at h0
    rw [Bool.and_eq_true, Bool.and_eq_true] at h0
    unfold ePV pedV
    cases hd : eDrop s
    · have := h0.2.2
      rw [hd, Bool.false_or, Bool.and_eq_true] at this
      rw [if_neg (by simp), if_pos this.1, if_neg (by simp)]
    · rw [if_pos rfl, if_pos rfl]
  have HNO := Lib.hid (@ed_no s)
  have HYE := Lib.hid (@ed_yes s)
  have HET := Lib.hid (fun d w => implEd_any (resS (eWhere s)) (resK (eWhere s)) d (ePV s) w hal hbl (Nat.le_trans hvl hs))
  obtain ⟨q, hq⟩ : ∃ q, eDoes s = q := ⟨_, rfl⟩
  obtain ⟨wh, hwh⟩ : ∃ wh, eWhere s = wh := ⟨_, rfl⟩
  rw [hq] at HCT HDR HPR HVL HEV HTP hdl
  rw [hwh] at HCT HPB HPP HYE HET hal hbl
  rw [← HPR.out, ← HVL.out] at HTP
  obtain ⟨a, ha⟩ : ∃ a, resS wh = a := ⟨_, rfl⟩
  obtain ⟨b, hb⟩ : ∃ b, resK wh = b := ⟨_, rfl⟩
  rw [ha] at HPB HPP HYE HET hal
  rw [hb] at HPB HPP HYE HET hbl
  obtain ⟨pv, hpv⟩ : ∃ pv, ePV s = pv := ⟨_, rfl⟩
  rw [hpv] at HPB HEV HPE HET hvl
  clear hq hwh ha hb hpv hwl HPR HVL
  by_cases hdd : eDrop s = true
  · have hqd : (q.toList == [45]) = true := by rw [← HDR.out]; exact hdd
    have hpe : pv = ⟨#[]⟩ := by rw [HEV.out, if_pos hdd]
    have HEQ := Lib.hid (fun w => HET.out true w)
    rw [hdd] at HPB
    subst hpe
    clear HEV HTP HET HDR
    obtain ⟨t, ht⟩ : ∃ t, edTB a b true ⟨#[]⟩ = t := ⟨_, rfl⟩
    rw [ht] at HPB HEQ
    clear ht
    by_cases hp : parB wh = true
    · by_cases he : (t.toList == s.toList) = true
      · have hf : pedB s = true := by rw [HPB.out, hp, he]; rfl
        have hne : (t.toList != s.toList) = false := by unfold bne; rw [he]; rfl
        obtain ⟨e1, e2, e3, e4⟩ := HYE.out hf
        rw [hdd] at e3
        rw [← HPE.out hf] at e4
        rw [e1, e2, e3, e4, hf]
        rw [hp] at HPP
        clear e1 e2 e3 e4 hf HNO HYE HPE HPB hp hdd
        go_enter Tryd.func12, Tryd.ntmps12
        go_upto_region 1 with (fail)
        have G0 : Hid (Grows w (w.alloc (.cells #[.string ⟨#[]⟩, .string ⟨#[]⟩, .bool false, .string ⟨#[]⟩] 26))) := (Grows.refl w).alloc _
        have RB0 := Lib.hid (EdBox.new w ⟨#[]⟩ ⟨#[]⟩ false ⟨#[]⟩)
        obtain ⟨w0, hw0⟩ : ∃ w0, w.alloc (.cells #[.string ⟨#[]⟩, .string ⟨#[]⟩, .bool false, .string ⟨#[]⟩] 26) = w0 := ⟨_, rfl⟩
        rw [hw0] at G0 RB0 ⊢
        clear hw0
        obtain ⟨β, hct⟩ := HCT.out w0
        have HCU := Lib.hid hct
        clear hct HCT
        go_wp2_with (go_at_call 23; refine (HCU.out).mono ?_; rintro e w' ⟨rfl, n, rfl⟩)
        go_upto_region 2 with (fail)
        have G0' : Hid (Grows w (w0.drewN n)) := G0.out.drewN n
        have RB0' : Hid (EdBox (w0.drewN n) w.heap.size ⟨#[]⟩ ⟨#[]⟩ false ⟨#[]⟩) := RB0.out.keep ((Grows.refl w0).drewN n)
        generalize w0.drewN n = wd at G0' RB0' ⊢
        clear G0 RB0 HCU
        go_wp2_with fail
        refine (HPP.out _).mono ?_
        rintro e w1 ⟨rfl, g1⟩
        have G1 : Hid (Grows w w1) := G0'.out.trans g1
        have RB1 := Lib.hid (RB0'.out.keep g1)
        clear g1 G0' RB0'
        go_upto_region 3 with (fail)
        have G2 : Hid (Grows w (w1.alloc (.cells #[.string a, .string b] 41))) := G1.out.alloc _
        have RB2 := Lib.hid (RB1.out.keep ((Grows.refl w1).alloc (.cells #[.string a, .string b] 41)))
        have RF2 := Lib.hid (RfBox.new w1 a b)
        generalize w1.heap.size = b5 at RF2 ⊢
        obtain ⟨w2, hw2⟩ : ∃ w', w1.alloc (.cells #[.string a, .string b] 41) = w' := ⟨_, rfl⟩
        rw [hw2] at G2 RB2 RF2 ⊢
        clear hw2 G1 RB1
        have x0 := RF2.out.c0
        have x1 := RF2.out.c1
        go_upto_region 4 with (fail)
        have G3 : Hid (Grows w (w2.alloc (.cells #[.string a, .string b, .bool true, .string ⟨#[]⟩] 26))) := G2.out.alloc _
        have RB3 := Lib.hid (RB2.out.keep ((Grows.refl w2).alloc (.cells #[.string a, .string b, .bool true, .string ⟨#[]⟩] 26)))
        have EB3 := Lib.hid (EdBox.new w2 a b true ⟨#[]⟩)
        have hgt : w.heap.size < w2.heap.size := RB2.out.lt
        generalize w2.heap.size = b7 at EB3 hgt ⊢
        obtain ⟨w3, hw3⟩ : ∃ w', w2.alloc (.cells #[.string a, .string b, .bool true, .string ⟨#[]⟩] 26) = w' := ⟨_, rfl⟩
        rw [hw3] at G3 RB3 EB3 ⊢
        clear hw3 G2 RB2 RF2 x0 x1
        have r0 := RB3.out.c0
        have r1 := RB3.out.c1
        have r2 := RB3.out.c2
        have r3 := RB3.out.c3
        have s0 := EB3.out.c0
        have s1 := EB3.out.c1
        have s2 := EB3.out.c2
        have s3 := EB3.out.c3
        have f0 := RB3.out.fr 0
        have f1 := RB3.out.fr 1
        have f2 := RB3.out.fr 2
        have f3 := RB3.out.fr 3
        have p0 := EB3.out.fr 0
        have p1 := EB3.out.fr 1
        have p2 := EB3.out.fr 2
        have p3 := EB3.out.fr 3
        have HGY := G3
        have RBY := RB3
        have EBY := EB3
        clear G3 RB3 EB3
        go_wp2_with fail
        refine (HEQ.out _).mono ?_
        rintro e wz ⟨rfl, gz⟩
        have HGZ : Hid (Grows w wz) := HGY.out.trans gz
        have RBZ := Lib.hid (RBY.out.keep gz)
        have EBZ := Lib.hid (EBY.out.keep gz)
        clear gz HGY RBY EBY r0 r1 r2 r3 s0 s1 s2 s3 f0 f1 f2 f3 p0 p1 p2 p3
        have r0 := RBZ.out.c0
        have r1 := RBZ.out.c1
        have r2 := RBZ.out.c2
        have r3 := RBZ.out.c3
        have s0 := EBZ.out.c0
        have s1 := EBZ.out.c1
        have s2 := EBZ.out.c2
        have s3 := EBZ.out.c3
        have f0 := RBZ.out.fr 0
        have f1 := RBZ.out.fr 1
        have f2 := RBZ.out.fr 2
        have f3 := RBZ.out.fr 3
        have p0 := EBZ.out.fr 0
        have p1 := EBZ.out.fr 1
        have p2 := EBZ.out.fr 2
        have p3 := EBZ.out.fr 3
        go_wp2
        refine bodyPost_ret (v := .tuple #[.agg #[.string a, .string b, .bool true, .string ⟨#[]⟩], .bool true]) (by simp [results, Tryd.results12, go_sem, r0, r1, r2, r3]) rfl ⟨rfl, ?_⟩
        exact (((HGZ.out.setCell (by exact Nat.le_refl _) _).setCell (by exact Nat.le_refl _) _).setCell (by exact Nat.le_refl _) _).setCell (by exact Nat.le_refl _) _
      · have he' : (t.toList == s.toList) = false := by simpa using he
        have hf : pedB s = false := by rw [HPB.out, he']; simp
        have hne : (t.toList != s.toList) = true := by unfold bne; rw [he']; rfl
        obtain ⟨e1, e2, e3, e4⟩ := HNO.out hf
        rw [e1, e2, e3, e4, hf]
        rw [hp] at HPP
        clear e1 e2 e3 e4 hf HNO HYE HPE HPB hp hdd he
        go_enter Tryd.func12, Tryd.ntmps12
        go_upto_region 1 with (fail)
        have G0 : Hid (Grows w (w.alloc (.cells #[.string ⟨#[]⟩, .string ⟨#[]⟩, .bool false, .string ⟨#[]⟩] 26))) := (Grows.refl w).alloc _
        have RB0 := Lib.hid (EdBox.new w ⟨#[]⟩ ⟨#[]⟩ false ⟨#[]⟩)
        obtain ⟨w0, hw0⟩ : ∃ w0, w.alloc (.cells #[.string ⟨#[]⟩, .string ⟨#[]⟩, .bool false, .string ⟨#[]⟩] 26) = w0 := ⟨_, rfl⟩
        rw [hw0] at G0 RB0 ⊢
        clear hw0
        obtain ⟨β, hct⟩ := HCT.out w0
        have HCU := Lib.hid hct
        clear hct HCT
        go_wp2_with (go_at_call 23; refine (HCU.out).mono ?_; rintro e w' ⟨rfl, n, rfl⟩)
        go_upto_region 2 with (fail)
        have G0' : Hid (Grows w (w0.drewN n)) := G0.out.drewN n
        have RB0' : Hid (EdBox (w0.drewN n) w.heap.size ⟨#[]⟩ ⟨#[]⟩ false ⟨#[]⟩) := RB0.out.keep ((Grows.refl w0).drewN n)
        generalize w0.drewN n = wd at G0' RB0' ⊢
        clear G0 RB0 HCU
        go_wp2_with fail
        refine (HPP.out _).mono ?_
        rintro e w1 ⟨rfl, g1⟩
        have G1 : Hid (Grows w w1) := G0'.out.trans g1
        have RB1 := Lib.hid (RB0'.out.keep g1)
        clear g1 G0' RB0'
        go_upto_region 3 with (fail)
        have G2 : Hid (Grows w (w1.alloc (.cells #[.string a, .string b] 41))) := G1.out.alloc _
        have RB2 := Lib.hid (RB1.out.keep ((Grows.refl w1).alloc (.cells #[.string a, .string b] 41)))
        have RF2 := Lib.hid (RfBox.new w1 a b)
        generalize w1.heap.size = b5 at RF2 ⊢
        obtain ⟨w2, hw2⟩ : ∃ w', w1.alloc (.cells #[.string a, .string b] 41) = w' := ⟨_, rfl⟩
        rw [hw2] at G2 RB2 RF2 ⊢
        clear hw2 G1 RB1
        have x0 := RF2.out.c0
        have x1 := RF2.out.c1
        go_upto_region 4 with (fail)
        have G3 : Hid (Grows w (w2.alloc (.cells #[.string a, .string b, .bool true, .string ⟨#[]⟩] 26))) := G2.out.alloc _
        have RB3 := Lib.hid (RB2.out.keep ((Grows.refl w2).alloc (.cells #[.string a, .string b, .bool true, .string ⟨#[]⟩] 26)))
        have EB3 := Lib.hid (EdBox.new w2 a b true ⟨#[]⟩)
        have hgt : w.heap.size < w2.heap.size := RB2.out.lt
        generalize w2.heap.size = b7 at EB3 hgt ⊢
        obtain ⟨w3, hw3⟩ : ∃ w', w2.alloc (.cells #[.string a, .string b, .bool true, .string ⟨#[]⟩] 26) = w' := ⟨_, rfl⟩
        rw [hw3] at G3 RB3 EB3 ⊢
        clear hw3 G2 RB2 RF2 x0 x1
        have r0 := RB3.out.c0
        have r1 := RB3.out.c1
        have r2 := RB3.out.c2
        have r3 := RB3.out.c3
        have s0 := EB3.out.c0
        have s1 := EB3.out.c1
        have s2 := EB3.out.c2
        have s3 := EB3.out.c3
        have f0 := RB3.out.fr 0
        have f1 := RB3.out.fr 1
        have f2 := RB3.out.fr 2
        have f3 := RB3.out.fr 3
        have p0 := EB3.out.fr 0
        have p1 := EB3.out.fr 1
        have p2 := EB3.out.fr 2
        have p3 := EB3.out.fr 3
        have HGY := G3
        have RBY := RB3
        have EBY := EB3
        clear G3 RB3 EB3
        go_wp2_with fail
        refine (HEQ.out _).mono ?_
        rintro e wz ⟨rfl, gz⟩
        have HGZ : Hid (Grows w wz) := HGY.out.trans gz
        have RBZ := Lib.hid (RBY.out.keep gz)
        have EBZ := Lib.hid (EBY.out.keep gz)
        clear gz HGY RBY EBY r0 r1 r2 r3 s0 s1 s2 s3 f0 f1 f2 f3 p0 p1 p2 p3
        have r0 := RBZ.out.c0
        have r1 := RBZ.out.c1
        have r2 := RBZ.out.c2
        have r3 := RBZ.out.c3
        have s0 := EBZ.out.c0
        have s1 := EBZ.out.c1
        have s2 := EBZ.out.c2
        have s3 := EBZ.out.c3
        have f0 := RBZ.out.fr 0
        have f1 := RBZ.out.fr 1
        have f2 := RBZ.out.fr 2
        have f3 := RBZ.out.fr 3
        have p0 := EBZ.out.fr 0
        have p1 := EBZ.out.fr 1
        have p2 := EBZ.out.fr 2
        have p3 := EBZ.out.fr 3
        go_wp2
        refine bodyPost_ret (v := .tuple #[.agg #[.string ⟨#[]⟩, .string ⟨#[]⟩, .bool false, .string ⟨#[]⟩], .bool false]) (by simp [results, Tryd.results12, go_sem, r0, r1, r2, r3]) rfl ⟨rfl, ?_⟩
        exact (((HGZ.out.setCell (by exact Nat.le_refl _) _).setCell (by exact Nat.le_refl _) _).setCell (by exact Nat.le_refl _) _).setCell (by exact Nat.le_refl _) _
    · have hp' : parB wh = false := by simpa using hp
      have hf : pedB s = false := by rw [HPB.out, hp', Bool.false_and]
      obtain ⟨e1, e2, e3, e4⟩ := HNO.out hf
      rw [e1, e2, e3, e4, hf]
      rw [hp'] at HPP
      clear e1 e2 e3 e4 hf HNO HYE HPE HPB hp hp' hdd HEQ
      go_enter Tryd.func12, Tryd.ntmps12
      go_upto_region 1 with (fail)
      have G0 : Hid (Grows w (w.alloc (.cells #[.string ⟨#[]⟩, .string ⟨#[]⟩, .bool false, .string ⟨#[]⟩] 26))) := (Grows.refl w).alloc _
      have RB0 := Lib.hid (EdBox.new w ⟨#[]⟩ ⟨#[]⟩ false ⟨#[]⟩)
      obtain ⟨w0, hw0⟩ : ∃ w0, w.alloc (.cells #[.string ⟨#[]⟩, .string ⟨#[]⟩, .bool false, .string ⟨#[]⟩] 26) = w0 := ⟨_, rfl⟩
      rw [hw0] at G0 RB0 ⊢
      clear hw0
      obtain ⟨β, hct⟩ := HCT.out w0
      have HCU := Lib.hid hct
      clear hct HCT
      go_wp2_with (go_at_call 23; refine (HCU.out).mono ?_; rintro e w' ⟨rfl, n, rfl⟩)
      go_upto_region 2 with (fail)
      have G0' : Hid (Grows w (w0.drewN n)) := G0.out.drewN n
      have RB0' : Hid (EdBox (w0.drewN n) w.heap.size ⟨#[]⟩ ⟨#[]⟩ false ⟨#[]⟩) := RB0.out.keep ((Grows.refl w0).drewN n)
      generalize w0.drewN n = wd at G0' RB0' ⊢
      clear G0 RB0 HCU
      go_wp2_with fail
      refine (HPP.out _).mono ?_
      rintro e w1 ⟨rfl, g1⟩
      have G1 : Hid (Grows w w1) := G0'.out.trans g1
      have RB1 := Lib.hid (RB0'.out.keep g1)
      clear g1 G0' RB0'
      go_upto_region 3 with (fail)
      have G2 : Hid (Grows w (w1.alloc (.cells #[.string a, .string b] 41))) := G1.out.alloc _
      have RB2 := Lib.hid (RB1.out.keep ((Grows.refl w1).alloc (.cells #[.string a, .string b] 41)))
      have RF2 := Lib.hid (RfBox.new w1 a b)
      generalize w1.heap.size = b5 at RF2 ⊢
      obtain ⟨w2, hw2⟩ : ∃ w', w1.alloc (.cells #[.string a, .string b] 41) = w' := ⟨_, rfl⟩
      rw [hw2] at G2 RB2 RF2 ⊢
      clear hw2 G1 RB1
      have x0 := RF2.out.c0
      have x1 := RF2.out.c1
      go_upto_region 4 with (fail)
      have G3 : Hid (Grows w (w2.alloc (.cells #[.string a, .string b, .bool true, .string ⟨#[]⟩] 26))) := G2.out.alloc _
      have RB3 := Lib.hid (RB2.out.keep ((Grows.refl w2).alloc (.cells #[.string a, .string b, .bool true, .string ⟨#[]⟩] 26)))
      have EB3 := Lib.hid (EdBox.new w2 a b true ⟨#[]⟩)
      have hgt : w.heap.size < w2.heap.size := RB2.out.lt
      generalize w2.heap.size = b7 at EB3 hgt ⊢
      obtain ⟨w3, hw3⟩ : ∃ w', w2.alloc (.cells #[.string a, .string b, .bool true, .string ⟨#[]⟩] 26) = w' := ⟨_, rfl⟩
      rw [hw3] at G3 RB3 EB3 ⊢
      clear hw3 G2 RB2 RF2 x0 x1
      have r0 := RB3.out.c0
      have r1 := RB3.out.c1
      have r2 := RB3.out.c2
      have r3 := RB3.out.c3
      have s0 := EB3.out.c0
      have s1 := EB3.out.c1
      have s2 := EB3.out.c2
      have s3 := EB3.out.c3
      have f0 := RB3.out.fr 0
      have f1 := RB3.out.fr 1
      have f2 := RB3.out.fr 2
      have f3 := RB3.out.fr 3
      have p0 := EB3.out.fr 0
      have p1 := EB3.out.fr 1
      have p2 := EB3.out.fr 2
      have p3 := EB3.out.fr 3
      have HGY := G3
      have RBY := RB3
      have EBY := EB3
      clear G3 RB3 EB3
      go_wp2
      refine bodyPost_ret (v := .tuple #[.agg #[.string ⟨#[]⟩, .string ⟨#[]⟩, .bool false, .string ⟨#[]⟩], .bool false]) (by simp [results, Tryd.results12, go_sem, r0, r1, r2, r3]) rfl ⟨rfl, ?_⟩
      exact (((HGY.out.setCell (by exact Nat.le_refl _) _).setCell (by exact Nat.le_refl _) _).setCell (by exact Nat.le_refl _) _).setCell (by exact Nat.le_refl _) _
  · have hdd' : eDrop s = false := by simpa using hdd
    have hqd : (q.toList == [45]) = false := by rw [← HDR.out]; exact hdd'
    have hpe : (if ePre s = true then eVal s else q) = pv := by rw [HEV.out, if_neg hdd]
    rw [hpe] at HTP
    clear hdd
    have hdd := hdd'
    have HEQ := Lib.hid (fun w => HET.out false w)
    rw [hdd] at HPB
    clear hdd' HEV HET HDR hpe
    obtain ⟨t, ht⟩ : ∃ t, edTB a b false pv = t := ⟨_, rfl⟩
    rw [ht] at HPB HEQ
    clear ht
    by_cases hp : parB wh = true
    · by_cases he : (t.toList == s.toList) = true
      · have hf : pedB s = true := by rw [HPB.out, hp, he]; rfl
        have hne : (t.toList != s.toList) = false := by unfold bne; rw [he]; rfl
        obtain ⟨e1, e2, e3, e4⟩ := HYE.out hf
        rw [hdd] at e3
        rw [← HPE.out hf] at e4
        rw [e1, e2, e3, e4, hf]
        rw [hp] at HPP
        clear e1 e2 e3 e4 hf HNO HYE HPE HPB hp hdd
        go_enter Tryd.func12, Tryd.ntmps12
        go_upto_region 1 with (fail)
        have G0 : Hid (Grows w (w.alloc (.cells #[.string ⟨#[]⟩, .string ⟨#[]⟩, .bool false, .string ⟨#[]⟩] 26))) := (Grows.refl w).alloc _
        have RB0 := Lib.hid (EdBox.new w ⟨#[]⟩ ⟨#[]⟩ false ⟨#[]⟩)
        obtain ⟨w0, hw0⟩ : ∃ w0, w.alloc (.cells #[.string ⟨#[]⟩, .string ⟨#[]⟩, .bool false, .string ⟨#[]⟩] 26) = w0 := ⟨_, rfl⟩
        rw [hw0] at G0 RB0 ⊢
        clear hw0
        obtain ⟨β, hct⟩ := HCT.out w0
        have HCU := Lib.hid hct
        clear hct HCT
        go_wp2_with (go_at_call 23; refine (HCU.out).mono ?_; rintro e w' ⟨rfl, n, rfl⟩)
        go_upto_region 2 with (fail)
        have G0' : Hid (Grows w (w0.drewN n)) := G0.out.drewN n
        have RB0' : Hid (EdBox (w0.drewN n) w.heap.size ⟨#[]⟩ ⟨#[]⟩ false ⟨#[]⟩) := RB0.out.keep ((Grows.refl w0).drewN n)
        generalize w0.drewN n = wd at G0' RB0' ⊢
        clear G0 RB0 HCU
        go_wp2_with fail
        refine (HPP.out _).mono ?_
        rintro e w1 ⟨rfl, g1⟩
        have G1 : Hid (Grows w w1) := G0'.out.trans g1
        have RB1 := Lib.hid (RB0'.out.keep g1)
        clear g1 G0' RB0'
        go_upto_region 3 with (fail)
        have G2 : Hid (Grows w (w1.alloc (.cells #[.string a, .string b] 41))) := G1.out.alloc _
        have RB2 := Lib.hid (RB1.out.keep ((Grows.refl w1).alloc (.cells #[.string a, .string b] 41)))
        have RF2 := Lib.hid (RfBox.new w1 a b)
        generalize w1.heap.size = b5 at RF2 ⊢
        obtain ⟨w2, hw2⟩ : ∃ w', w1.alloc (.cells #[.string a, .string b] 41) = w' := ⟨_, rfl⟩
        rw [hw2] at G2 RB2 RF2 ⊢
        clear hw2 G1 RB1
        have x0 := RF2.out.c0
        have x1 := RF2.out.c1
        go_upto_region 4 with (fail)
        have G3 : Hid (Grows w (w2.alloc (.cells #[.string a, .string b, .bool false, .string ⟨#[]⟩] 26))) := G2.out.alloc _
        have RB3 := Lib.hid (RB2.out.keep ((Grows.refl w2).alloc (.cells #[.string a, .string b, .bool false, .string ⟨#[]⟩] 26)))
        have EB3 := Lib.hid (EdBox.new w2 a b false ⟨#[]⟩)
        have hgt : w.heap.size < w2.heap.size := RB2.out.lt
        generalize w2.heap.size = b7 at EB3 hgt ⊢
        obtain ⟨w3, hw3⟩ : ∃ w', w2.alloc (.cells #[.string a, .string b, .bool false, .string ⟨#[]⟩] 26) = w' := ⟨_, rfl⟩
        rw [hw3] at G3 RB3 EB3 ⊢
        clear hw3 G2 RB2 RF2 x0 x1
        have r0 := RB3.out.c0
        have r1 := RB3.out.c1
        have r2 := RB3.out.c2
        have r3 := RB3.out.c3
        have s0 := EB3.out.c0
        have s1 := EB3.out.c1
        have s2 := EB3.out.c2
        have s3 := EB3.out.c3
        have f0 := RB3.out.fr 0
        have f1 := RB3.out.fr 1
        have f2 := RB3.out.fr 2
        have f3 := RB3.out.fr 3
        have p0 := EB3.out.fr 0
        have p1 := EB3.out.fr 1
        have p2 := EB3.out.fr 2
        have p3 := EB3.out.fr 3
        go_wp2_with (go_at_call 25; refine (HTP.out _).mono ?_; rintro e w' ⟨rfl, hq9⟩; have hq8 := hq9.symm; subst hq8; clear hq9)
        go_upto_region 6 with (fail)
        have G4 : Hid (Grows w (w3.setCell ⟨b7, 3, none⟩ (.string pv))) := G3.out.setCell (show w.heap.size ≤ b7 by omega) _
        have RB4 : Hid (EdBox (w3.setCell ⟨b7, 3, none⟩ (.string pv)) w.heap.size ⟨#[]⟩ ⟨#[]⟩ false ⟨#[]⟩) := row_set RB3.out _ (by omega)
        have EB4 := Lib.hid (EB3.out.set3 pv)
        obtain ⟨w4, hw4⟩ : ∃ w', (w3.setCell ⟨b7, 3, none⟩ (.string pv)) = w' := ⟨_, rfl⟩
        rw [hw4] at G4 RB4 EB4 ⊢
        clear hw4 G3 RB3 EB3 r0 r1 r2 r3 s0 s1 s2 s3 f0 f1 f2 f3 p0 p1 p2 p3
        have r0 := RB4.out.c0
        have r1 := RB4.out.c1
        have r2 := RB4.out.c2
        have r3 := RB4.out.c3
        have s0 := EB4.out.c0
        have s1 := EB4.out.c1
        have s2 := EB4.out.c2
        have s3 := EB4.out.c3
        have f0 := RB4.out.fr 0
        have f1 := RB4.out.fr 1
        have f2 := RB4.out.fr 2
        have f3 := RB4.out.fr 3
        have p0 := EB4.out.fr 0
        have p1 := EB4.out.fr 1
        have p2 := EB4.out.fr 2
        have p3 := EB4.out.fr 3
        have HGY := G4
        have RBY := RB4
        have EBY := EB4
        clear G4 RB4 EB4
        go_wp2_with fail
        refine (HEQ.out _).mono ?_
        rintro e wz ⟨rfl, gz⟩
        have HGZ : Hid (Grows w wz) := HGY.out.trans gz
        have RBZ := Lib.hid (RBY.out.keep gz)
        have EBZ := Lib.hid (EBY.out.keep gz)
        clear gz HGY RBY EBY r0 r1 r2 r3 s0 s1 s2 s3 f0 f1 f2 f3 p0 p1 p2 p3
        have r0 := RBZ.out.c0
        have r1 := RBZ.out.c1
        have r2 := RBZ.out.c2
        have r3 := RBZ.out.c3
        have s0 := EBZ.out.c0
        have s1 := EBZ.out.c1
        have s2 := EBZ.out.c2
        have s3 := EBZ.out.c3
        have f0 := RBZ.out.fr 0
        have f1 := RBZ.out.fr 1
        have f2 := RBZ.out.fr 2
        have f3 := RBZ.out.fr 3
        have p0 := EBZ.out.fr 0
        have p1 := EBZ.out.fr 1
        have p2 := EBZ.out.fr 2
        have p3 := EBZ.out.fr 3
        go_wp2
        refine bodyPost_ret (v := .tuple #[.agg #[.string a, .string b, .bool false, .string pv], .bool true]) (by simp [results, Tryd.results12, go_sem, r0, r1, r2, r3]) rfl ⟨rfl, ?_⟩
        exact (((HGZ.out.setCell (by exact Nat.le_refl _) _).setCell (by exact Nat.le_refl _) _).setCell (by exact Nat.le_refl _) _).setCell (by exact Nat.le_refl _) _
      · have he' : (t.toList == s.toList) = false := by simpa using he
        have hf : pedB s = false := by rw [HPB.out, he']; simp
        have hne : (t.toList != s.toList) = true := by unfold bne; rw [he']; rfl
        obtain ⟨e1, e2, e3, e4⟩ := HNO.out hf
        rw [e1, e2, e3, e4, hf]
        rw [hp] at HPP
        clear e1 e2 e3 e4 hf HNO HYE HPE HPB hp hdd he
        go_enter Tryd.func12, Tryd.ntmps12
        go_upto_region 1 with (fail)
        have G0 : Hid (Grows w (w.alloc (.cells #[.string ⟨#[]⟩, .string ⟨#[]⟩, .bool false, .string ⟨#[]⟩] 26))) := (Grows.refl w).alloc _
        have RB0 := Lib.hid (EdBox.new w ⟨#[]⟩ ⟨#[]⟩ false ⟨#[]⟩)
        obtain ⟨w0, hw0⟩ : ∃ w0, w.alloc (.cells #[.string ⟨#[]⟩, .string ⟨#[]⟩, .bool false, .string ⟨#[]⟩] 26) = w0 := ⟨_, rfl⟩
        rw [hw0] at G0 RB0 ⊢
        clear hw0
        obtain ⟨β, hct⟩ := HCT.out w0
        have HCU := Lib.hid hct
        clear hct HCT
        go_wp2_with (go_at_call 23; refine (HCU.out).mono ?_; rintro e w' ⟨rfl, n, rfl⟩)
        go_upto_region 2 with (fail)
        have G0' : Hid (Grows w (w0.drewN n)) := G0.out.drewN n
        have RB0' : Hid (EdBox (w0.drewN n) w.heap.size ⟨#[]⟩ ⟨#[]⟩ false ⟨#[]⟩) := RB0.out.keep ((Grows.refl w0).drewN n)
        generalize w0.drewN n = wd at G0' RB0' ⊢
        clear G0 RB0 HCU
        go_wp2_with fail
        refine (HPP.out _).mono ?_
        rintro e w1 ⟨rfl, g1⟩
        have G1 : Hid (Grows w w1) := G0'.out.trans g1
        have RB1 := Lib.hid (RB0'.out.keep g1)
        clear g1 G0' RB0'
        go_upto_region 3 with (fail)
        have G2 : Hid (Grows w (w1.alloc (.cells #[.string a, .string b] 41))) := G1.out.alloc _
        have RB2 := Lib.hid (RB1.out.keep ((Grows.refl w1).alloc (.cells #[.string a, .string b] 41)))
        have RF2 := Lib.hid (RfBox.new w1 a b)
        generalize w1.heap.size = b5 at RF2 ⊢
        obtain ⟨w2, hw2⟩ : ∃ w', w1.alloc (.cells #[.string a, .string b] 41) = w' := ⟨_, rfl⟩
        rw [hw2] at G2 RB2 RF2 ⊢
        clear hw2 G1 RB1
        have x0 := RF2.out.c0
        have x1 := RF2.out.c1
        go_upto_region 4 with (fail)
        have G3 : Hid (Grows w (w2.alloc (.cells #[.string a, .string b, .bool false, .string ⟨#[]⟩] 26))) := G2.out.alloc _
        have RB3 := Lib.hid (RB2.out.keep ((Grows.refl w2).alloc (.cells #[.string a, .string b, .bool false, .string ⟨#[]⟩] 26)))
        have EB3 := Lib.hid (EdBox.new w2 a b false ⟨#[]⟩)
        have hgt : w.heap.size < w2.heap.size := RB2.out.lt
        generalize w2.heap.size = b7 at EB3 hgt ⊢
        obtain ⟨w3, hw3⟩ : ∃ w', w2.alloc (.cells #[.string a, .string b, .bool false, .string ⟨#[]⟩] 26) = w' := ⟨_, rfl⟩
        rw [hw3] at G3 RB3 EB3 ⊢
        clear hw3 G2 RB2 RF2 x0 x1
        have r0 := RB3.out.c0
        have r1 := RB3.out.c1
        have r2 := RB3.out.c2
        have r3 := RB3.out.c3
        have s0 := EB3.out.c0
        have s1 := EB3.out.c1
        have s2 := EB3.out.c2
        have s3 := EB3.out.c3
        have f0 := RB3.out.fr 0
        have f1 := RB3.out.fr 1
        have f2 := RB3.out.fr 2
        have f3 := RB3.out.fr 3
        have p0 := EB3.out.fr 0
        have p1 := EB3.out.fr 1
        have p2 := EB3.out.fr 2
        have p3 := EB3.out.fr 3
        go_wp2_with (go_at_call 25; refine (HTP.out _).mono ?_; rintro e w' ⟨rfl, hq9⟩; have hq8 := hq9.symm; subst hq8; clear hq9)
        go_upto_region 6 with (fail)
        have G4 : Hid (Grows w (w3.setCell ⟨b7, 3, none⟩ (.string pv))) := G3.out.setCell (show w.heap.size ≤ b7 by omega) _
        have RB4 : Hid (EdBox (w3.setCell ⟨b7, 3, none⟩ (.string pv)) w.heap.size ⟨#[]⟩ ⟨#[]⟩ false ⟨#[]⟩) := row_set RB3.out _ (by omega)
        have EB4 := Lib.hid (EB3.out.set3 pv)
        obtain ⟨w4, hw4⟩ : ∃ w', (w3.setCell ⟨b7, 3, none⟩ (.string pv)) = w' := ⟨_, rfl⟩
        rw [hw4] at G4 RB4 EB4 ⊢
        clear hw4 G3 RB3 EB3 r0 r1 r2 r3 s0 s1 s2 s3 f0 f1 f2 f3 p0 p1 p2 p3
        have r0 := RB4.out.c0
        have r1 := RB4.out.c1
        have r2 := RB4.out.c2
        have r3 := RB4.out.c3
        have s0 := EB4.out.c0
        have s1 := EB4.out.c1
        have s2 := EB4.out.c2
        have s3 := EB4.out.c3
        have f0 := RB4.out.fr 0
        have f1 := RB4.out.fr 1
        have f2 := RB4.out.fr 2
        have f3 := RB4.out.fr 3
        have p0 := EB4.out.fr 0
        have p1 := EB4.out.fr 1
        have p2 := EB4.out.fr 2
        have p3 := EB4.out.fr 3
        have HGY := G4
        have RBY := RB4
        have EBY := EB4
        clear G4 RB4 EB4
        go_wp2_with fail
        refine (HEQ.out _).mono ?_
        rintro e wz ⟨rfl, gz⟩
        have HGZ : Hid (Grows w wz) := HGY.out.trans gz
        have RBZ := Lib.hid (RBY.out.keep gz)
        have EBZ := Lib.hid (EBY.out.keep gz)
        clear gz HGY RBY EBY r0 r1 r2 r3 s0 s1 s2 s3 f0 f1 f2 f3 p0 p1 p2 p3
        have r0 := RBZ.out.c0
        have r1 := RBZ.out.c1
        have r2 := RBZ.out.c2
        have r3 := RBZ.out.c3
        have s0 := EBZ.out.c0
        have s1 := EBZ.out.c1
        have s2 := EBZ.out.c2
        have s3 := EBZ.out.c3
        have f0 := RBZ.out.fr 0
        have f1 := RBZ.out.fr 1
        have f2 := RBZ.out.fr 2
        have f3 := RBZ.out.fr 3
        have p0 := EBZ.out.fr 0
        have p1 := EBZ.out.fr 1
        have p2 := EBZ.out.fr 2
        have p3 := EBZ.out.fr 3
        go_wp2
        refine bodyPost_ret (v := .tuple #[.agg #[.string ⟨#[]⟩, .string ⟨#[]⟩, .bool false, .string ⟨#[]⟩], .bool false]) (by simp [results, Tryd.results12, go_sem, r0, r1, r2, r3]) rfl ⟨rfl, ?_⟩
        exact (((HGZ.out.setCell (by exact Nat.le_refl _) _).setCell (by exact Nat.le_refl _) _).setCell (by exact Nat.le_refl _) _).setCell (by exact Nat.le_refl _) _
    · have hp' : parB wh = false := by simpa using hp
      have hf : pedB s = false := by rw [HPB.out, hp', Bool.false_and]
      obtain ⟨e1, e2, e3, e4⟩ := HNO.out hf
      rw [e1, e2, e3, e4, hf]
      rw [hp'] at HPP
      clear e1 e2 e3 e4 hf HNO HYE HPE HPB hp hp' hdd HEQ
      go_enter Tryd.func12, Tryd.ntmps12
      go_upto_region 1 with (fail)
      have G0 : Hid (Grows w (w.alloc (.cells #[.string ⟨#[]⟩, .string ⟨#[]⟩, .bool false, .string ⟨#[]⟩] 26))) := (Grows.refl w).alloc _
      have RB0 := Lib.hid (EdBox.new w ⟨#[]⟩ ⟨#[]⟩ false ⟨#[]⟩)
      obtain ⟨w0, hw0⟩ : ∃ w0, w.alloc (.cells #[.string ⟨#[]⟩, .string ⟨#[]⟩, .bool false, .string ⟨#[]⟩] 26) = w0 := ⟨_, rfl⟩
      rw [hw0] at G0 RB0 ⊢
      clear hw0
      obtain ⟨β, hct⟩ := HCT.out w0
      have HCU := Lib.hid hct
      clear hct HCT
      go_wp2_with (go_at_call 23; refine (HCU.out).mono ?_; rintro e w' ⟨rfl, n, rfl⟩)
      go_upto_region 2 with (fail)
      have G0' : Hid (Grows w (w0.drewN n)) := G0.out.drewN n
      have RB0' : Hid (EdBox (w0.drewN n) w.heap.size ⟨#[]⟩ ⟨#[]⟩ false ⟨#[]⟩) := RB0.out.keep ((Grows.refl w0).drewN n)
      generalize w0.drewN n = wd at G0' RB0' ⊢
      clear G0 RB0 HCU
      go_wp2_with fail
      refine (HPP.out _).mono ?_
      rintro e w1 ⟨rfl, g1⟩
      have G1 : Hid (Grows w w1) := G0'.out.trans g1
      have RB1 := Lib.hid (RB0'.out.keep g1)
      clear g1 G0' RB0'
      go_upto_region 3 with (fail)
      have G2 : Hid (Grows w (w1.alloc (.cells #[.string a, .string b] 41))) := G1.out.alloc _
      have RB2 := Lib.hid (RB1.out.keep ((Grows.refl w1).alloc (.cells #[.string a, .string b] 41)))
      have RF2 := Lib.hid (RfBox.new w1 a b)
      generalize w1.heap.size = b5 at RF2 ⊢
      obtain ⟨w2, hw2⟩ : ∃ w', w1.alloc (.cells #[.string a, .string b] 41) = w' := ⟨_, rfl⟩
      rw [hw2] at G2 RB2 RF2 ⊢
      clear hw2 G1 RB1
      have x0 := RF2.out.c0
      have x1 := RF2.out.c1
      go_upto_region 4 with (fail)
      have G3 : Hid (Grows w (w2.alloc (.cells #[.string a, .string b, .bool false, .string ⟨#[]⟩] 26))) := G2.out.alloc _
      have RB3 := Lib.hid (RB2.out.keep ((Grows.refl w2).alloc (.cells #[.string a, .string b, .bool false, .string ⟨#[]⟩] 26)))
      have EB3 := Lib.hid (EdBox.new w2 a b false ⟨#[]⟩)
      have hgt : w.heap.size < w2.heap.size := RB2.out.lt
      generalize w2.heap.size = b7 at EB3 hgt ⊢
      obtain ⟨w3, hw3⟩ : ∃ w', w2.alloc (.cells #[.string a, .string b, .bool false, .string ⟨#[]⟩] 26) = w' := ⟨_, rfl⟩
      rw [hw3] at G3 RB3 EB3 ⊢
      clear hw3 G2 RB2 RF2 x0 x1
      have r0 := RB3.out.c0
      have r1 := RB3.out.c1
      have r2 := RB3.out.c2
      have r3 := RB3.out.c3
      have s0 := EB3.out.c0
      have s1 := EB3.out.c1
      have s2 := EB3.out.c2
      have s3 := EB3.out.c3
      have f0 := RB3.out.fr 0
      have f1 := RB3.out.fr 1
      have f2 := RB3.out.fr 2
      have f3 := RB3.out.fr 3
      have p0 := EB3.out.fr 0
      have p1 := EB3.out.fr 1
      have p2 := EB3.out.fr 2
      have p3 := EB3.out.fr 3
      go_wp2_with (go_at_call 25; refine (HTP.out _).mono ?_; rintro e w' ⟨rfl, hq9⟩; have hq8 := hq9.symm; subst hq8; clear hq9)
      go_upto_region 6 with (fail)
      have G4 : Hid (Grows w (w3.setCell ⟨b7, 3, none⟩ (.string pv))) := G3.out.setCell (show w.heap.size ≤ b7 by omega) _
      have RB4 : Hid (EdBox (w3.setCell ⟨b7, 3, none⟩ (.string pv)) w.heap.size ⟨#[]⟩ ⟨#[]⟩ false ⟨#[]⟩) := row_set RB3.out _ (by omega)
      have EB4 := Lib.hid (EB3.out.set3 pv)
      obtain ⟨w4, hw4⟩ : ∃ w', (w3.setCell ⟨b7, 3, none⟩ (.string pv)) = w' := ⟨_, rfl⟩
      rw [hw4] at G4 RB4 EB4 ⊢
      clear hw4 G3 RB3 EB3 r0 r1 r2 r3 s0 s1 s2 s3 f0 f1 f2 f3 p0 p1 p2 p3
      have r0 := RB4.out.c0
      have r1 := RB4.out.c1
      have r2 := RB4.out.c2
      have r3 := RB4.out.c3
      have s0 := EB4.out.c0
      have s1 := EB4.out.c1
      have s2 := EB4.out.c2
      have s3 := EB4.out.c3
      have f0 := RB4.out.fr 0
      have f1 := RB4.out.fr 1
      have f2 := RB4.out.fr 2
      have f3 := RB4.out.fr 3
      have p0 := EB4.out.fr 0
      have p1 := EB4.out.fr 1
      have p2 := EB4.out.fr 2
      have p3 := EB4.out.fr 3
      have HGY := G4
      have RBY := RB4
      have EBY := EB4
      clear G4 RB4 EB4
      go_wp2
      refine bodyPost_ret (v := .tuple #[.agg #[.string ⟨#[]⟩, .string ⟨#[]⟩, .bool false, .string ⟨#[]⟩], .bool false]) (by simp [results, Tryd.results12, go_sem, r0, r1, r2, r3]) rfl ⟨rfl, ?_⟩
      exact (((HGY.out.setCell (by exact Nat.le_refl _) _).setCell (by exact Nat.le_refl _) _).setCell (by exact Nat.le_refl _) _).setCell (by exact Nat.le_refl _) _
end Go.Proofs.YthiefficgmokgaaDoor
