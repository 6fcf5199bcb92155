/-
  The law of ValidFile: whatever the file, it returns true. Conditions: parts no longer than a text may be.
-/
import Derived.Test.YteifcogfnpeahaaFile
import Derived.Test.YteifcogfnpeahaaMake
namespace Go.Proofs.Yteifcogfnpeahaa
open Go.RowKit

set_option maxHeartbeats 1000000 in
theorem eqFile_any (A B : Option Addr) (c d : Nat) (ls : List Ln) (w : World) (hn : ls.length ≤ maxLen) (hA : LnsAt w A ls) (hB : LnsAt w B ls) :
    Calls Try.prog 45 #[.agg #[.slice A ls.length c], .agg #[.slice B ls.length d]] w fun e w' => e = .returned (.bool true) ∧ Grows w w' := by
  have HS := Lib.hid (fun w1 (g : Grows w w1) => eqLineS_any A B c d ls w1 hn (hA.keep g) (hB.keep g))
  clear hA hB hn
  go_enter Try.func45, Try.ntmps45
  go_wp2_with (go_at_call 83; refine (HS.out _ ?_).mono ?_; exact ((Grows.refl _).alloc _).alloc _; rintro e w1 ⟨rfl, hg⟩)
  go_ret
  exact ⟨rfl, (((Grows.refl _).alloc _).alloc _).trans hg⟩

theorem part_le {ls : List Ln} {i : Nat} (h : i < ls.length) : ls[i].size ≤ wsum ls ls.length := by
  have h1 := wsum_succ h
  have h2 := wsum_le ls (i + 1)
  omega
theorem fits_of {ls : List Ln} (h : (wlines ls : Int) ≤ 1048576) : AllFit ls := by
  have hw : wlines ls = ls.length + wsum ls ls.length := rfl
  refine ⟨by omega, fun i hi => ?_⟩
  have h1 := part_le hi
  have h2 : ls[i].size = ls[i].le.size + ls[i].na.size + ls[i].se.size + ls[i].va.size + ls[i].ta.size := rfl
  unfold Ln.fits maxLen
  omega

end Go.Proofs.Yteifcogfnpeahaa
