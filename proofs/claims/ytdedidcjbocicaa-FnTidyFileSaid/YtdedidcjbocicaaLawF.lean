/-
  The law of ValidFile: whatever the file, it returns true. Conditions: parts no longer than a text may be.
-/
import Derived.Test.YtdedidcjbocicaaFile
import Derived.Test.YtdedidcjbocicaaMake
namespace Go.Proofs.Ytdedidcjbocicaa
open Go.RowKit

set_option maxHeartbeats 1000000 in
theorem specValidFile_any (A : Option Addr) (c : Nat) (ls : List Ln) (w : World) (hf : AllFit ls) (hA : LnsAt w A ls) :
    Calls Try.prog 8 #[.agg #[.slice A ls.length c]] w fun e w' => e = .returned (.bool (vfile ls)) ∧ Grows w w' := by
  have HS := Lib.hid (fun w1 (g : Grows w w1) => specFile_any A c ls w1 hf (hA.keep g))
  clear hA hf
  go_enter Try.func8, Try.ntmps8
  go_wp2_with fail
  refine (HS.out _ ((Grows.refl _).alloc _)).mono ?_
  rintro e w1 ⟨rfl, hg⟩
  go_wp2
  go_ret
  exact ⟨rfl, ((Grows.refl _).alloc _).trans hg⟩

theorem part_le {ls : List Ln} {i : Nat} (h : i < ls.length) : ls[i].size ≤ wsum ls ls.length := by
  have h1 := wsum_succ h
  have h2 := wsum_le ls (i + 1)
  omega
theorem fits_of {ls : List Ln} (h : (wlines ls : Int) ≤ 1048576) : AllFit ls := by
  have hw : wlines ls = ls.length + wsum ls ls.length := rfl
  refine ⟨by omega, fun i hi => ?_⟩
  have h1 := part_le hi
  have h2 : ls[i].size = ls[i].le.size + ls[i].na.size + ls[i].se.size + ls[i].va.size + ls[i].ta.size := rfl
  unfold Ln.fits maxLen
  omega

end Go.Proofs.Ytdedidcjbocicaa
