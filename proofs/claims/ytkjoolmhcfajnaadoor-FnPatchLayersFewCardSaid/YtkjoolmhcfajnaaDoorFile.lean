/-
  What the program's test of a file returns, and the law's own helpers: sizes, copies and comparison of files. Conditions: at most 1048576 lines, each part at most 1048576 bytes.
  The law of ValidFile: whatever the file, it returns true. Conditions: parts no longer than a text may be.
-/
import Derived.Test.YtkjoolmhcfajnaaDoorMem
import Derived.Test.YtkjoolmhcfajnaaDoorVLine
namespace Go.Proofs.YtkjoolmhcfajnaaDoor
open Go.RowKit

end Go.Proofs.YtkjoolmhcfajnaaDoor
namespace Go.Proofs.YtkjoolmhcfajnaaDoor
open Go.RowKit

theorem part_le {ls : List Ln} {i : Nat} (h : i < ls.length) : ls[i].size ≤ wsum ls ls.length := by
  have h1 := wsum_succ h
  have h2 := wsum_le ls (i + 1)
  omega
theorem fits_of {ls : List Ln} (h : (wlines ls : Int) ≤ 1048576) : AllFit ls := by
  have hw : wlines ls = ls.length + wsum ls ls.length := rfl
  refine ⟨by omega, fun i hi => ?_⟩
  have h1 := part_le hi
  have h2 : ls[i].size = ls[i].le.size + ls[i].na.size + ls[i].se.size + ls[i].va.size + ls[i].ta.size := rfl
  unfold Ln.fits maxLen
  omega

end Go.Proofs.YtkjoolmhcfajnaaDoor
