/-
  Texts of edits: what an edit is, EditText and ParseEdit of both sides. Conditions: texts of at most 1048576 bytes.
-/
import Derived.Test.YthiefficgmokgaaDoorPtx
import Derived.Test.YthiefficgmokgaaDoorLayW
namespace Go.Proofs.YthiefficgmokgaaDoor
open Go.ChangeShapes Go.WideShapes Go.Deep Go.RowKit

def dOp (d : Bool) : Int := if d = true then 1 else 0
theorem vent_edit (r k : ByteArray) (d : Bool) (v : ByteArray) : vent ⟨r, k, dOp d, v⟩ = vedit r k d v := by
  unfold vent vedit opB dOp
  cases d <;> simp
theorem vedit_place {r k : ByteArray} (d : Bool) (v : ByteArray) (h : vplace r k = false) : vedit r k d v = false := by unfold vedit; rw [h]; rfl
theorem vedit_value (r k : ByteArray) (d : Bool) {v : ByteArray} (h : vvalue v = false) : vedit r k d v = false := by unfold vedit; rw [h]; simp
theorem vedit_drop (r k : ByteArray) {v : ByteArray} (h : ¬ v.toList = []) : vedit r k true v = false := by unfold vedit; simp [h]
theorem vedit_ok {r k : ByteArray} {d : Bool} {v : ByteArray} (h1 : vplace r k = true) (h2 : vvalue v = true) (h3 : d = true → v.toList = []) : vedit r k d v = true := by
  unfold vedit
  rw [h1, h2]
  cases d
  · rfl
  · rw [h3 rfl]; rfl

set_option maxHeartbeats 1000000 in
theorem entryOf_any (r k : ByteArray) (d : Bool) (v : ByteArray) (w : World) :
    Calls Tryd.prog 33 #[.agg #[.string r, .string k, .bool d, .string v]] w fun e w' => e = .returned (.agg #[.string r, .string k, .int .i64 (dOp d), .string v]) ∧ Grows w w' := by
  rcases d with _ | _
  · show Calls Tryd.prog 33 #[.agg #[.string r, .string k, .bool false, .string v]] w fun e w' => e = .returned (.agg #[.string r, .string k, .int .i64 0, .string v]) ∧ Grows w w'
    go_enter Tryd.func33, Tryd.ntmps33
    go_wp2
    refine bodyPost_ret (v := .agg #[.string r, .string k, .int .i64 0, .string v]) (by simp [results, Tryd.results33, go_sem]) rfl ⟨rfl, ((Grows.refl _).alloc _).alloc _⟩
  · show Calls Tryd.prog 33 #[.agg #[.string r, .string k, .bool true, .string v]] w fun e w' => e = .returned (.agg #[.string r, .string k, .int .i64 1, .string v]) ∧ Grows w w'
    go_enter Tryd.func33, Tryd.ntmps33
    go_wp2
    refine bodyPost_ret (v := .agg #[.string r, .string k, .int .i64 1, .string v]) (by simp [results, Tryd.results33, go_sem]) rfl ⟨rfl, ((Grows.refl _).alloc _).alloc _⟩

set_option maxHeartbeats 1000000 in
theorem implVEd_any (r k : ByteArray) (d : Bool) (v : ByteArray) (w : World) (hr : r.size ≤ 1048576) (hk : k.size ≤ 1048576) (hv : v.size ≤ 1048576) :
    Calls Tryd.prog 19 #[.agg #[.string r, .string k, .bool d, .string v]] w fun e w' => e = .returned (.bool (vedit r k d v)) ∧ Grows w w' := by
  have HO := Lib.hid (fun w => entryOf_any r k d v w)
  have HV := Lib.hid (fun w => validEntry_any ⟨r, k, dOp d, v⟩ w hr hk hv)
  rw [vent_edit] at HV
  unfold Ent.agg at HV
  generalize dOp d = op at HO HV
  go_enter Tryd.func19, Tryd.ntmps19
  go_wp2_with fail
  refine (HO.out _).mono ?_
  rintro e w1 ⟨rfl, g1⟩
  have HG1 : Hid (Grows w w1) := ((Grows.refl _).alloc _).trans g1
  clear g1
  go_wp2_with fail
  refine (HV.out _).mono ?_
  rintro e w2 ⟨rfl, g2⟩
  go_wp2
  go_ret
  exact ⟨rfl, HG1.out.trans g2⟩

set_option maxHeartbeats 2000000 in
theorem specVEd_any (r k : ByteArray) (d : Bool) (v : ByteArray) (w : World) (hr : r.size ≤ 1048576) (hk : k.size ≤ 1048576) (hv : v.size ≤ 1048576) :
    Calls Tryd.prog 17 #[.agg #[.string r, .string k, .bool d, .string v]] w fun e w' => e = .returned (.bool (vedit r k d v)) ∧ Grows w w' := by
  have HP := Lib.hid (fun w => specPlace_any r k w hr hk)
  have HQ := Lib.hid (fun w => specValue_any v w (by unfold maxLen; omega))
  by_cases h1 : vplace r k = true
  · by_cases h2 : vvalue v = true
    · rcases d with _ | _
      · have HV : Hid (vedit r k false v = true) := vedit_ok h1 h2 (fun h => by cases h)
        rw [h1] at HP
        rw [h2] at HQ
        clear h1 h2
        go_enter Tryd.func17, Tryd.ntmps17
        go_wp2_with fail
        refine (HP.out _).mono ?_
        rintro e w1 ⟨rfl, rfl⟩
        go_wp2_with fail
        refine (HQ.out _).mono ?_
        rintro e w1 ⟨rfl, rfl⟩
        go_wp2
        go_ret
        exact ⟨ret_bool HV.out.symm, (Grows.refl _).alloc _⟩
      · by_cases h3 : v.toList = []
        · have hl : v.toList.isEmpty = true := by simp [h3]
          have HV : Hid (vedit r k true v = true) := vedit_ok h1 h2 (fun _ => h3)
          rw [h1] at HP
          rw [h2] at HQ
          clear h1 h2
          go_enter Tryd.func17, Tryd.ntmps17
          go_wp2_with fail
          refine (HP.out _).mono ?_
          rintro e w1 ⟨rfl, rfl⟩
          go_wp2_with fail
          refine (HQ.out _).mono ?_
          rintro e w1 ⟨rfl, rfl⟩
          go_wp2
          go_ret
          exact ⟨ret_bool HV.out.symm, (Grows.refl _).alloc _⟩
        · have hl : v.toList.isEmpty = false := by simp [h3]
          have HV : Hid (vedit r k true v = false) := vedit_drop r k h3
          rw [h1] at HP
          rw [h2] at HQ
          clear h1 h2 h3
          go_enter Tryd.func17, Tryd.ntmps17
          go_wp2_with fail
          refine (HP.out _).mono ?_
          rintro e w1 ⟨rfl, rfl⟩
          go_wp2_with fail
          refine (HQ.out _).mono ?_
          rintro e w1 ⟨rfl, rfl⟩
          go_wp2
          go_ret
          exact ⟨ret_bool HV.out.symm, (Grows.refl _).alloc _⟩
    · have h2' : vvalue v = false := by simpa using h2
      have HV : Hid (vedit r k d v = false) := vedit_value r k d h2'
      rw [h1] at HP
      rw [h2'] at HQ
      clear h1 h2 h2'
      go_enter Tryd.func17, Tryd.ntmps17
      go_wp2_with fail
      refine (HP.out _).mono ?_
      rintro e w1 ⟨rfl, rfl⟩
      go_wp2_with fail
      refine (HQ.out _).mono ?_
      rintro e w1 ⟨rfl, rfl⟩
      go_wp2
      go_ret
      exact ⟨ret_bool HV.out.symm, (Grows.refl _).alloc _⟩
  · have h1' : vplace r k = false := by simpa using h1
    have HV : Hid (vedit r k d v = false) := vedit_place d v h1'
    rw [h1'] at HP
    clear h1 h1' HQ
    go_enter Tryd.func17, Tryd.ntmps17
    go_wp2_with fail
    refine (HP.out _).mono ?_
    rintro e w1 ⟨rfl, rfl⟩
    go_wp2
    go_ret
    exact ⟨ret_bool HV.out.symm, (Grows.refl _).alloc _⟩

set_option maxHeartbeats 2000000 in
theorem specEd_any (r k : ByteArray) (d : Bool) (v : ByteArray) (w : World) (hr : r.size ≤ 1048576) (hk : k.size ≤ 1048576) (hv : v.size ≤ 1048576) :
    Calls Tryd.prog 8 #[.agg #[.string r, .string k, .bool d, .string v]] w fun e w' => e = .returned (.string (edTB r k d v)) ∧ Grows w w' := by
  have HP := Lib.hid (fun w => specVEd_any r k d v w hr hk hv)
  have HQ := Lib.hid (fun w => specPlT_any r k w hr hk)
  have hz := plT_size r k
  have HE : Hid (edTB r k d v = if vedit r k d v = true then (if d = true then plT r k ++ ⟨#[32, 45]⟩ else plT r k ++ ⟨#[32, 61, 32]⟩ ++ v) else ⟨#[]⟩) := rfl
  by_cases h : vedit r k d v = true
  · rw [h] at HP HE
    generalize plT r k = t at HQ HE hz
    have hz2 : t.size ≤ 2097153 := by omega
    clear h hz
    rcases d with _ | _
    · have HV : Hid (edTB r k false v = t ++ ⟨#[32, 61, 32]⟩ ++ v) := HE.out
      clear HE
      go_enter Tryd.func8, Tryd.ntmps8
      go_wp2_with fail
      refine (HP.out _).mono ?_
      rintro e w1 ⟨rfl, g1⟩
      have c0 : w1.cell? ⟨w.heap.size, 0, none⟩ = some (.string r) := (g1.cell (p := ⟨w.heap.size, 0, none⟩) (by simp)).trans (by simp)
      have c1 : w1.cell? ⟨w.heap.size, 1, none⟩ = some (.string k) := (g1.cell (p := ⟨w.heap.size, 1, none⟩) (by simp)).trans (by simp)
      have c2 : w1.cell? ⟨w.heap.size, 2, none⟩ = some (.bool false) := (g1.cell (p := ⟨w.heap.size, 2, none⟩) (by simp)).trans (by simp)
      have c3 : w1.cell? ⟨w.heap.size, 3, none⟩ = some (.string v) := (g1.cell (p := ⟨w.heap.size, 3, none⟩) (by simp)).trans (by simp)
      have hs1 : w.heap.size < w1.heap.size := World.block_lt_of_cell? w1 _ c0
      have HG1 : Hid (Grows w w1) := ((Grows.refl _).alloc _).trans g1
      clear g1
      go_wp2_with fail
      go_quiet ((go_at_call 18; exact quiet_leftP (HQ.out _)))
      go_wp2
      go_ret
      exact ⟨ret_str HV.out.symm, HG1.out.drewN _⟩
    · have HV : Hid (edTB r k true v = t ++ ⟨#[32, 45]⟩) := HE.out
      clear HE
      go_enter Tryd.func8, Tryd.ntmps8
      go_wp2_with fail
      refine (HP.out _).mono ?_
      rintro e w1 ⟨rfl, g1⟩
      have c0 : w1.cell? ⟨w.heap.size, 0, none⟩ = some (.string r) := (g1.cell (p := ⟨w.heap.size, 0, none⟩) (by simp)).trans (by simp)
      have c1 : w1.cell? ⟨w.heap.size, 1, none⟩ = some (.string k) := (g1.cell (p := ⟨w.heap.size, 1, none⟩) (by simp)).trans (by simp)
      have c2 : w1.cell? ⟨w.heap.size, 2, none⟩ = some (.bool true) := (g1.cell (p := ⟨w.heap.size, 2, none⟩) (by simp)).trans (by simp)
      have c3 : w1.cell? ⟨w.heap.size, 3, none⟩ = some (.string v) := (g1.cell (p := ⟨w.heap.size, 3, none⟩) (by simp)).trans (by simp)
      have hs1 : w.heap.size < w1.heap.size := World.block_lt_of_cell? w1 _ c0
      have HG1 : Hid (Grows w w1) := ((Grows.refl _).alloc _).trans g1
      clear g1
      go_wp2_with fail
      refine (HQ.out _).mono ?_
      rintro e w2 ⟨rfl, rfl⟩
      go_wp2
      go_ret
      exact ⟨ret_str HV.out.symm, HG1.out⟩
  · have h' : vedit r k d v = false := by simpa using h
    have HV : Hid (edTB r k d v = ⟨#[]⟩) := by unfold Hid; rw [HE.out, if_neg h]
    rw [h'] at HP
    clear h h' HE hz HQ
    go_enter Tryd.func8, Tryd.ntmps8
    go_wp2_with fail
    refine (HP.out _).mono ?_
    rintro e w1 ⟨rfl, g1⟩
    go_wp2
    go_ret
    exact ⟨ret_str HV.out.symm, ((Grows.refl _).alloc _).trans g1⟩

set_option maxHeartbeats 2000000 in
theorem implEd_any (r k : ByteArray) (d : Bool) (v : ByteArray) (w : World) (hr : r.size ≤ 1048576) (hk : k.size ≤ 1048576) (hv : v.size ≤ 1048576) :
    Calls Tryd.prog 10 #[.agg #[.string r, .string k, .bool d, .string v]] w fun e w' => e = .returned (.string (edTB r k d v)) ∧ Grows w w' := by
  have HP := Lib.hid (fun w => implVEd_any r k d v w hr hk hv)
  have HQ0 := fun w => implPl_any r k w hr hk
  have hz := plT_size r k
  have HE : Hid (edTB r k d v = if vedit r k d v = true then (if d = true then plT r k ++ ⟨#[32, 45]⟩ else plT r k ++ ⟨#[32, 61, 32]⟩ ++ v) else ⟨#[]⟩) := rfl
  by_cases h : vedit r k d v = true
  · have hp : plTB r k = plT r k := by unfold plTB; rw [if_pos (vedit_yes h).1]
    rw [hp] at HQ0
    have HQ := Lib.hid HQ0
    rw [h] at HP HE
    clear HQ0 hp
    generalize plT r k = t at HQ HE hz
    have hz2 : t.size ≤ 2097153 := by omega
    clear h hz
    rcases d with _ | _
    · have HV : Hid (edTB r k false v = t ++ ⟨#[32, 61, 32]⟩ ++ v) := HE.out
      clear HE
      go_enter Tryd.func10, Tryd.ntmps10
      go_wp2_with fail
      refine (HP.out _).mono ?_
      rintro e w1 ⟨rfl, g1⟩
      have c0 : w1.cell? ⟨w.heap.size, 0, none⟩ = some (.string r) := (g1.cell (p := ⟨w.heap.size, 0, none⟩) (by simp)).trans (by simp)
      have c1 : w1.cell? ⟨w.heap.size, 1, none⟩ = some (.string k) := (g1.cell (p := ⟨w.heap.size, 1, none⟩) (by simp)).trans (by simp)
      have c2 : w1.cell? ⟨w.heap.size, 2, none⟩ = some (.bool false) := (g1.cell (p := ⟨w.heap.size, 2, none⟩) (by simp)).trans (by simp)
      have c3 : w1.cell? ⟨w.heap.size, 3, none⟩ = some (.string v) := (g1.cell (p := ⟨w.heap.size, 3, none⟩) (by simp)).trans (by simp)
      have hs1 : w.heap.size < w1.heap.size := World.block_lt_of_cell? w1 _ c0
      have HG1 : Hid (Grows w w1) := ((Grows.refl _).alloc _).trans g1
      clear g1
      go_wp2_with fail
      refine (HQ.out _).mono ?_
      rintro e w2 ⟨rfl, g2⟩
      have d2 := (g2.cell (p := ⟨w.heap.size, 2, none⟩) hs1).trans c2
      have d3 := (g2.cell (p := ⟨w.heap.size, 3, none⟩) hs1).trans c3
      have HG2 : Hid (Grows w w2) := HG1.out.trans g2
      clear g2 c0 c1 c2 c3 hs1
      go_wp2
      go_ret
      exact ⟨ret_str HV.out.symm, HG2.out⟩
    · have HV : Hid (edTB r k true v = t ++ ⟨#[32, 45]⟩) := HE.out
      clear HE
      go_enter Tryd.func10, Tryd.ntmps10
      go_wp2_with fail
      refine (HP.out _).mono ?_
      rintro e w1 ⟨rfl, g1⟩
      have c0 : w1.cell? ⟨w.heap.size, 0, none⟩ = some (.string r) := (g1.cell (p := ⟨w.heap.size, 0, none⟩) (by simp)).trans (by simp)
      have c1 : w1.cell? ⟨w.heap.size, 1, none⟩ = some (.string k) := (g1.cell (p := ⟨w.heap.size, 1, none⟩) (by simp)).trans (by simp)
      have c2 : w1.cell? ⟨w.heap.size, 2, none⟩ = some (.bool true) := (g1.cell (p := ⟨w.heap.size, 2, none⟩) (by simp)).trans (by simp)
      have c3 : w1.cell? ⟨w.heap.size, 3, none⟩ = some (.string v) := (g1.cell (p := ⟨w.heap.size, 3, none⟩) (by simp)).trans (by simp)
      have hs1 : w.heap.size < w1.heap.size := World.block_lt_of_cell? w1 _ c0
      have HG1 : Hid (Grows w w1) := ((Grows.refl _).alloc _).trans g1
      clear g1
      go_wp2_with fail
      refine (HQ.out _).mono ?_
      rintro e w2 ⟨rfl, g2⟩
      have d2 := (g2.cell (p := ⟨w.heap.size, 2, none⟩) hs1).trans c2
      have d3 := (g2.cell (p := ⟨w.heap.size, 3, none⟩) hs1).trans c3
      have HG2 : Hid (Grows w w2) := HG1.out.trans g2
      clear g2 c0 c1 c2 c3 hs1
      go_wp2
      go_ret
      exact ⟨ret_str HV.out.symm, HG2.out⟩
  · have h' : vedit r k d v = false := by simpa using h
    have HV : Hid (edTB r k d v = ⟨#[]⟩) := by unfold Hid; rw [HE.out, if_neg h]
    rw [h'] at HP
    clear h h' HE hz HQ0
    go_enter Tryd.func10, Tryd.ntmps10
    go_wp2_with fail
    refine (HP.out _).mono ?_
    rintro e w1 ⟨rfl, g1⟩
    go_wp2
    go_ret
    exact ⟨ret_str HV.out.symm, ((Grows.refl _).alloc _).trans g1⟩
end Go.Proofs.YthiefficgmokgaaDoor
