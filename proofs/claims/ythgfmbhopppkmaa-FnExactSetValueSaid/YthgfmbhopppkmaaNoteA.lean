/-
  A file with one more note: AddNote of the program. Conditions: at most 1048576 bytes in all.
-/
import Derived.Test.YthgfmbhopppkmaaPut
import Derived.Test.YthgfmbhopppkmaaHeads
namespace Go.Proofs.Ythgfmbhopppkmaa
open Go.RowKit

/-- the line of a new note -/
def noteL (v : ByteArray) : Ln := ⟨1, ⟨#[]⟩, ⟨#[]⟩, ⟨#[]⟩, v, ⟨#[]⟩⟩
def addNL (ls : List Ln) (s key note : ByteArray) : List Ln := if whereOf ls s key < 0 then [] else chkL (putL ls (whereOf ls s key).toNat [noteL note])
def addNB (ls : List Ln) (s key note : ByteArray) : Bool := if whereOf ls s key < 0 then false else vfile (putL ls (whereOf ls s key).toNat [noteL note])
theorem chkL_20 (K : List Ln) : (chkL K).length ≤ 20 := by
  unfold chkL
  split
  · rename_i h
    unfold vfile at h
    rw [Bool.and_eq_true, decide_eq_true_iff] at h
    exact h.2
  · simp
theorem addNL_le (ls : List Ln) (s key note : ByteArray) : (addNL ls s key note).length ≤ 1048576 := by
  unfold addNL
  split
  · simp
  · exact Nat.le_trans (chkL_20 _) (by omega)
theorem putL_fits {ls ms : List Ln} {k : Nat} (hf : AllFit ls) (hl : ls.length + ms.length ≤ 1048576) (hm : ∀ i (h : i < ms.length), ms[i].fits) : AllFit (putL ls k ms) := by
  have hall : ∀ l ∈ putL ls k ms, l.fits := fun l hl => by
    unfold putL at hl
    rw [List.mem_append, List.mem_append] at hl
    rcases hl with h | h | h
    · obtain ⟨i, hi, rfl⟩ := List.getElem_of_mem (List.mem_of_mem_take h); exact hf.2 i hi
    · obtain ⟨i, hi, rfl⟩ := List.getElem_of_mem h; exact hm i hi
    · obtain ⟨i, hi, rfl⟩ := List.getElem_of_mem (List.mem_of_mem_drop h); exact hf.2 i hi
  refine ⟨?_, fun i h => hall _ (List.getElem_mem h)⟩
  unfold putL
  simp
  omega
theorem line1_g (v : ByteArray) (w : World) : Calls Try.prog 74 #[.agg #[.string ⟨#[]⟩, .string v]] w fun e w' => e = .returned (.agg #[.int .i64 1, .string ⟨#[]⟩, .string ⟨#[]⟩, .string ⟨#[]⟩, .string v, .string ⟨#[]⟩]) ∧ Grows w w' :=
  (line_1 ⟨#[]⟩ v w).mono fun e w' ⟨h1, h2⟩ => ⟨h1, by rw [h2]; exact ((Grows.refl _).alloc _).alloc _⟩
theorem one_at (w : World) (l : Ln) (t : TypeId) : LnsAt (w.alloc (.cells #[.int .i64 l.k, .string l.le, .string l.na, .string l.se, .string l.va, .string l.ta] t)) (some ⟨w.heap.size, 0, none⟩) [l] := fun _ => by
  refine ⟨w.heap.size, 0, rfl, by simp, fun i hi => ?_⟩
  have h0 : i = 0 := by simp at hi; omega
  subst h0
  have hx := fun d => cell_of_row (w.alloc (.cells #[.int .i64 l.k, .string l.le, .string l.na, .string l.se, .string l.va, .string l.ta] t)) w.heap.size d _ _ _ (heap_alloc_new w _)
  refine ⟨?_, ?_, ?_, ?_, ?_, ?_⟩
  all_goals
    simp only [Nat.zero_mul, Nat.zero_add, Nat.add_zero]
    rw [hx]
    rfl

set_option maxRecDepth 100000 in
set_option maxHeartbeats 4000000 in
theorem implAddNote_any (A : Option Addr) (ls : List Ln) (s key note : ByteArray) (w : World) (hf : AllFit ls) (hno : note.size ≤ 1048576) (hA : LnsAt w A ls) :
    Calls Try.prog 32 #[.agg #[.slice A ls.length ls.length], .string s, .string key, .string note] w (ResLB (addNL ls s key note) (addNB ls s key note) w) := by
  have HW := Lib.hid (fun w1 (g : Grows w w1) => implWhere_any A ls.length ls s key w1 hf (hA.keep g))
  have HA := Lib.hid hA
  have hn : ls.length ≤ 1048576 := hf.1
  have hwl := where_lt ls s key
  by_cases h0 : whereOf ls s key < 0
  · have HV : Hid (addNL ls s key note = []) := by unfold Hid addNL; rw [if_pos h0]
    have HB : Hid (addNB ls s key note = false) := by unfold Hid addNB; rw [if_pos h0]
    obtain ⟨q, hq⟩ : ∃ q, whereOf ls s key = q := ⟨_, rfl⟩
    rw [hq] at HW h0
    obtain ⟨n, hnn⟩ : ∃ n, ls.length = n := ⟨_, rfl⟩
    rw [hnn] at HW ⊢
    clear hq hnn hwl hA hf hn
    go_enter Try.func32, Try.ntmps32
    go_wp2_with fail
    refine (HW.out _ (((Grows.refl _).alloc _).alloc _)).mono ?_
    rintro e w1 ⟨rfl, g1⟩
    have HG1 : Hid (Grows w w1) := (((Grows.refl _).alloc _).alloc _).trans g1
    have h1 : w1.cell? ⟨w.heap.size + 1, 0, none⟩ = some (.slice none 0 0) := (g1.cell (p := ⟨w.heap.size + 1, 0, none⟩) (by simp)).trans (by simp)
    have h2 : w1.frozen? ⟨w.heap.size + 1, 0, none⟩ = false := (g1.frozen (p := ⟨w.heap.size + 1, 0, none⟩) (by simp)).trans (by simp)
    clear g1
    go_wp2
    refine bodyPost_ret (v := .tuple #[.agg #[.slice none 0 0], .bool false]) (by simp [results, Try.results32, go_sem, h1]) rfl ?_
    rw [HV.out, HB.out]
    exact ⟨_, rfl, OwnL.nil _ _, HG1.out.setCell (by simp) _⟩
  · obtain ⟨k, hk⟩ : ∃ k : Nat, whereOf ls s key = k := ⟨(whereOf ls s key).toNat, by omega⟩
    have hkl : k < ls.length := by omega
    have hl := vfile_20 (pairs_some h0).1
    have HV : Hid (addNL ls s key note = chkL (putL ls k [noteL note])) := by unfold Hid addNL; rw [if_neg h0, hk, Int.toNat_natCast]
    have HB : Hid (addNB ls s key note = vfile (putL ls k [noteL note])) := by unfold Hid addNB; rw [if_neg h0, hk, Int.toNat_natCast]
    have HFR := Lib.hid (putL_fits (k := k) (ms := [noteL note]) hf (by simp; omega) (fun i h => by
      have h9 : i = 0 := by simp at h; omega
      subst h9
      exact ⟨Nat.zero_le _, Nat.zero_le _, Nat.zero_le _, Nat.le_trans hno (by unfold maxLen; omega), Nat.zero_le _⟩))
    have HPU := Lib.hid (fun (M : Option Addr) (mc : Nat) w1 (g : Grows w w1) (h : LnsAt w1 M [noteL note]) => putLines_any A M mc k ls [noteL note] w1 hn (by simp) (by simp) (by omega) (HA.out.keep g) h)
    rw [hk] at HW
    clear hk h0 hwl hA hf HA
    obtain ⟨R, hR⟩ : ∃ R, putL ls k [noteL note] = R := ⟨_, rfl⟩
    rw [hR] at HFR HPU HV HB
    clear hR
    have HCK := Lib.hid (fun (v : Value) (b : Nat) w1 (h : OwnL w1 b v R) => validLines_any v b R w1 HFR.out h)
    unfold RetL at HPU
    unfold ChkRet at HCK
    obtain ⟨n, hnn⟩ : ∃ n, ls.length = n := ⟨_, rfl⟩
    rw [hnn] at HW HPU hn hkl ⊢
    obtain ⟨β, hβ⟩ : ∃ β, vfile R = β := ⟨_, rfl⟩
    rw [hβ] at HCK HB
    clear hnn hβ hl
    go_enter Try.func32, Try.ntmps32
    go_wp2_with fail
    refine (HW.out _ (((Grows.refl _).alloc _).alloc _)).mono ?_
    rintro e w1 ⟨rfl, g1⟩
    have HG01 : Hid (Grows ((w.alloc (fbox A n n)).alloc (fbox none 0 0)) w1) := g1
    have HG1 : Hid (Grows w w1) := (((Grows.refl _).alloc _).alloc _).trans g1
    have hb1 : w1.cell? ⟨w.heap.size, 0, none⟩ = some (.slice A n n) := (HG01.out.cell (p := ⟨w.heap.size, 0, none⟩) (by simp; omega)).trans (by simp [fbox])
    clear g1
    go_wp2_with fail
    refine wp_region_M 11 (CellsAre [(⟨w.heap.size, 0, none⟩, .slice A n n)]) (by kernel_rfl) (by kernel_rfl) ⟨hb1, trivial⟩ (fun hB hS => ?_)
    refine wpAnyM_take (i := 0) (v := ?va0) hB rfl (by kernel_rfl) (fun _ _ _ h => h) (by rfl) ?ya0 hS ?na0
    case ya0 => (intro w9 hSw; obtain ⟨s1, _⟩ := hSw; go_simp; try with_reducible rfl)
    refine wpAnyM_take (i := 1) (v := ?va1) hB rfl (by kernel_rfl) (fun _ _ _ h => h) (by rfl) ?ya1 hS ?na1
    case ya1 => (intro w9 hSw; obtain ⟨s1, _⟩ := hSw; go_simp; try with_reducible rfl)
    refine wpAnyM_take (i := 2) (v := ?va2) hB rfl (by kernel_rfl) (fun _ _ _ h => h) (by rfl) ?ya2 hS ?na2
    case ya2 => (intro w9 hSw; obtain ⟨s1, _⟩ := hSw; go_simp; try with_reducible rfl)
    refine wpAnyM_take (i := 3) (v := ?va3) hB rfl (by kernel_rfl) (fun _ _ _ h => h) (by rfl) ?ya3 hS ?na3
    case ya3 => (intro w9 hSw; obtain ⟨s1, _⟩ := hSw; go_simp; try with_reducible rfl)
    refine wpAnyM_take (i := 4) (v := ?va4) hB rfl (by kernel_rfl) (fun _ _ _ h => h) (by rfl) ?ya4 hS ?na4
    case ya4 => (intro w9 hSw; obtain ⟨s1, _⟩ := hSw; go_simp; try with_reducible rfl)
    refine wpAnyM_one (i := 5) rfl (by kernel_rfl) rfl ?_
    have HS := Lib.hid hS
    clear hS hb1
    go_wp2_with fail
    refine (line1_g note _).mono ?_
    rintro e w2 ⟨rfl, g2⟩
    have HS2 := Lib.hid (CellsAre.keep HS.out g2)
    have G2 : Hid (Grows w1 w2) := (Grows.refl _).drew.trans g2
    clear g2 HS
    go_wp2_with fail
    refine ⟨HS2.out, ?_⟩
    refine wpAnyM_one (i := 6) rfl (by kernel_rfl) rfl ?_
    go_wp2_with fail
    refine ⟨CellsAre.keep HS2.out ((Grows.refl _).alloc _), ?_⟩
    refine wpAnyM_one (i := 7) rfl (by kernel_rfl) rfl ?_
    go_wp2_with fail
    refine (HPU.out _ _ _ (HG1.out.trans (G2.out.alloc _)) (one_at w2 (noteL note) _)).mono ?_
    rintro e w3 ⟨v, rfl, ho, g3⟩
    have HS3 := Lib.hid (CellsAre.keep (CellsAre.keep HS2.out ((Grows.refl _).alloc _)) g3)
    have G3 : Hid (Grows w1 w3) := (G2.out.alloc _).trans g3
    have HO3 : Hid (OwnL w3 w1.heap.size v R) := OwnL.less ho (Nat.le_trans G2.out.size (by simp))
    clear g3 ho HS2
    go_wp2_with fail
    refine ⟨HS3.out, ?_⟩
    refine wpAnyM_one (i := 8) rfl (by kernel_rfl) rfl ?_
    go_wp2_with fail
    refine (HCK.out _ _ _ HO3.out).mono ?_
    rintro e w4 ⟨u, rfl, ho, g4⟩
    have HS4 := Lib.hid (CellsAre.keep HS3.out g4)
    have G4 : Hid (Grows w1 w4) := G3.out.trans g4
    have HO4 := Lib.hid ho
    obtain ⟨A5, n5, c5, hv5⟩ := ho.form3
    subst hv5
    clear g4 ho HS3
    go_wp2_with fail
    refine ⟨HS4.out, ?_⟩
    have hS := HS4.out
    refine wpAnyM_take (i := 9) (v := ?vb9) hB rfl (by kernel_rfl) (fun _ _ _ h => h) (by rfl) ?yb9 hS ?nb9
    case yb9 => (intro w9 hSw; obtain ⟨s1, _⟩ := hSw; go_simp; try with_reducible rfl)
    refine wpAnyM_take (i := 10) (v := ?vb10) hB rfl (by kernel_rfl) (fun _ _ _ h => h) (by rfl) ?yb10 hS ?nb10
    case yb10 => (intro w9 hSw; obtain ⟨s1, _⟩ := hSw; go_simp; try with_reducible rfl)
    refine wpAnyM_tail (by kernel_rfl) ?_
    clear hS hB HS4
    have HG04 : Hid (Grows ((w.alloc (fbox A n n)).alloc (fbox none 0 0)) w4) := HG01.out.trans G4.out
    have h1 : w4.cell? ⟨w.heap.size + 1, 0, none⟩ = some (.slice none 0 0) := (HG04.out.cell (p := ⟨w.heap.size + 1, 0, none⟩) (by simp)).trans (by simp [fbox])
    have h2 : w4.frozen? ⟨w.heap.size + 1, 0, none⟩ = false := (HG04.out.frozen (p := ⟨w.heap.size + 1, 0, none⟩) (by simp)).trans (by simp [fbox])
    have hs1 : w.heap.size + 1 < w1.heap.size := Nat.lt_of_lt_of_le (by simp) HG01.out.size
    go_wp2
    refine bodyPost_ret (v := .tuple #[.agg #[.slice A5 n5 c5], .bool β]) (by simp [results, Try.results32, go_sem, h1]) rfl ?_
    rw [HV.out, HB.out]
    exact ⟨_, rfl, (HO4.out.setOther hs1 _).less HG1.out.size, (HG1.out.trans G4.out).setCell (by simp) _⟩
end Go.Proofs.Ythgfmbhopppkmaa
