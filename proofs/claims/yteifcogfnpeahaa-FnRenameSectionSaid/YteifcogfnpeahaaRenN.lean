/-
  RenameKey and RenameSection of the specification at a file without lines, whether or not its slice is nil. No condition.
-/
import Derived.Test.YteifcogfnpeahaaRenS
namespace Go.Proofs.Yteifcogfnpeahaa
open Go.RowKit

set_option maxRecDepth 100000 in
set_option maxHeartbeats 4000000 in
theorem specRenameKey_nil (A : Option Addr) (c : Nat) (s key tt : ByteArray) (w : World) :
    Calls Try.prog 32 #[.agg #[.slice A 0 c], .string s, .string key, .string tt] w (ResLB (renKL [] s key tt) (renKB [] s key tt) w) := by
  have HF := Lib.hid (fun w1 (g : Grows w w1) => specFile_any A c [] w1 ⟨by simp, fun i h => absurd h (by simp)⟩ ((LnsAt.nil w A).keep g))
  have H1 := Lib.hid (fun w1 (g : Grows w w1) => lastPair_any A c [] s key w1 (by simp) ((LnsAt.nil w A).keep g))
  have HV : Hid (renKL [] s key tt = []) := rfl
  have HB : Hid (renKB [] s key tt = false) := rfl
  go_enter Try.func32, Try.ntmps32
  go_wp2_with fail
  refine (HF.out _ (((Grows.refl _).alloc _).alloc _)).mono ?_
  rintro e w1 ⟨rfl, g1⟩
  have HG01 : Hid (Grows ((w.alloc (fbox A 0 c)).alloc (fbox none 0 0)) w1) := g1
  have HG1 : Hid (Grows w w1) := (((Grows.refl _).alloc _).alloc _).trans g1
  clear g1
  have hb1 : w1.cell? ⟨w.heap.size, 0, none⟩ = some (.slice A 0 c) := (HG01.out.cell (p := ⟨w.heap.size, 0, none⟩) (by simp; omega)).trans (by simp [fbox])
  have hvt : vfile [] = true := rfl
  rw [hvt]
  go_wp2_with fail
  refine (H1.out _ HG1.out).mono ?_
  rintro e w2 ⟨rfl, g2⟩
  have HG02 : Hid (Grows ((w.alloc (fbox A 0 c)).alloc (fbox none 0 0)) w2) := HG01.out.trans g2
  have HG2 : Hid (Grows w w2) := HG1.out.trans g2
  clear g2 hb1 hvt
  have h1 : w2.cell? ⟨w.heap.size + 1, 0, none⟩ = some (.slice none 0 0) := (HG02.out.cell (p := ⟨w.heap.size + 1, 0, none⟩) (by simp)).trans (by simp [fbox])
  have h2 : w2.frozen? ⟨w.heap.size + 1, 0, none⟩ = false := (HG02.out.frozen (p := ⟨w.heap.size + 1, 0, none⟩) (by simp)).trans (by simp [fbox])
  have hl : lastP [] s key ([] : List Ln).length = -1 := rfl
  rw [hl]
  clear hl
  go_wp2
  refine bodyPost_ret (v := .tuple #[.agg #[.slice none 0 0], .bool false]) (by simp [results, Try.results32, go_sem, h1]) rfl ?_
  rw [HV.out, HB.out]
  exact ⟨_, rfl, OwnL.nil _ _, HG2.out.setCell (by simp) _⟩

set_option maxRecDepth 100000 in
set_option maxHeartbeats 4000000 in
theorem specRenameSection_nil (A : Option Addr) (c : Nat) (s tt : ByteArray) (w : World) :
    Calls Try.prog 36 #[.agg #[.slice A 0 c], .string s, .string tt] w (ResLB (renSL [] s tt) (renSB [] s tt) w) := by
  have HF := Lib.hid (fun w1 (g : Grows w w1) => specFile_any A c [] w1 ⟨by simp, fun i h => absurd h (by simp)⟩ ((LnsAt.nil w A).keep g))
  have H1 := Lib.hid (fun w1 (g : Grows w w1) => headAt_any A c [] s w1 (by simp) ((LnsAt.nil w A).keep g))
  have HV : Hid (renSL [] s tt = []) := rfl
  have HB : Hid (renSB [] s tt = false) := rfl
  go_enter Try.func36, Try.ntmps36
  go_wp2_with fail
  refine (HF.out _ (((Grows.refl _).alloc _).alloc _)).mono ?_
  rintro e w1 ⟨rfl, g1⟩
  have HG01 : Hid (Grows ((w.alloc (fbox A 0 c)).alloc (fbox none 0 0)) w1) := g1
  have HG1 : Hid (Grows w w1) := (((Grows.refl _).alloc _).alloc _).trans g1
  clear g1
  have hb1 : w1.cell? ⟨w.heap.size, 0, none⟩ = some (.slice A 0 c) := (HG01.out.cell (p := ⟨w.heap.size, 0, none⟩) (by simp; omega)).trans (by simp [fbox])
  have hvt : vfile [] = true := rfl
  rw [hvt]
  go_wp2_with fail
  refine (H1.out _ HG1.out).mono ?_
  rintro e w2 ⟨rfl, g2⟩
  have HG02 : Hid (Grows ((w.alloc (fbox A 0 c)).alloc (fbox none 0 0)) w2) := HG01.out.trans g2
  have HG2 : Hid (Grows w w2) := HG1.out.trans g2
  clear g2 hb1 hvt
  have h1 : w2.cell? ⟨w.heap.size + 1, 0, none⟩ = some (.slice none 0 0) := (HG02.out.cell (p := ⟨w.heap.size + 1, 0, none⟩) (by simp)).trans (by simp [fbox])
  have h2 : w2.frozen? ⟨w.heap.size + 1, 0, none⟩ = false := (HG02.out.frozen (p := ⟨w.heap.size + 1, 0, none⟩) (by simp)).trans (by simp [fbox])
  have hl : headIx [] s = -1 := rfl
  rw [hl]
  clear hl
  go_wp2
  refine bodyPost_ret (v := .tuple #[.agg #[.slice none 0 0], .bool false]) (by simp [results, Try.results36, go_sem, h1]) rfl ?_
  rw [HV.out, HB.out]
  exact ⟨_, rfl, OwnL.nil _ _, HG2.out.setCell (by simp) _⟩

theorem specRenameKey_all (A : Option Addr) (c : Nat) (ls : List Ln) (s key tt : ByteArray) (w : World) (hf : AllFit ls) (hto : tt.size ≤ 1048576) (hA : LnsAt w A ls) :
    Calls Try.prog 32 #[.agg #[.slice A ls.length c], .string s, .string key, .string tt] w (ResLB (renKL ls s key tt) (renKB ls s key tt) w) := by
  rcases A with _ | A
  · rcases Nat.eq_zero_or_pos ls.length with h0 | h0
    · have h1 : ls = [] := List.eq_nil_of_length_eq_zero h0
      subst h1
      exact specRenameKey_nil none c s key tt w
    · obtain ⟨b, o, e, _⟩ := hA h0
      cases e
  · exact specRenameKey_any A c ls s key tt w hf hto hA
theorem specRenameSection_all (A : Option Addr) (c : Nat) (ls : List Ln) (s tt : ByteArray) (w : World) (hf : AllFit ls) (hto : tt.size ≤ 1048576) (hA : LnsAt w A ls) :
    Calls Try.prog 36 #[.agg #[.slice A ls.length c], .string s, .string tt] w (ResLB (renSL ls s tt) (renSB ls s tt) w) := by
  rcases A with _ | A
  · rcases Nat.eq_zero_or_pos ls.length with h0 | h0
    · have h1 : ls = [] := List.eq_nil_of_length_eq_zero h0
      subst h1
      exact specRenameSection_nil none c s tt w
    · obtain ⟨b, o, e, _⟩ := hA h0
      cases e
  · exact specRenameSection_any A c ls s tt w hf hto hA
end Go.Proofs.Yteifcogfnpeahaa
