/-
  The drawn law of WhereIs: whatever its bytes, it returns true. Condition: no more bytes than a slice may have.
-/
import Derived.Test.YtgjineoiebokhaaDoorDrw
import Derived.Test.YtgjineoiebokhaaDoorLawH
import Derived.Test.YtgjineoiebokhaaDoorQP
import Derived.Test.YtgjineoiebokhaaDoorSec
namespace Go.Proofs.YtgjineoiebokhaaDoor
open Go.RowKit

theorem ShortL.fit {K : List Ln} (h : ShortL K) (hK : K.length ≤ 100) : AllFit K := by
  refine ⟨by omega, fun i hi => ?_⟩
  obtain ⟨_, h1, h2, h3, h4, h5⟩ := h K[i] (List.getElem_mem hi)
  unfold Ln.fits maxLen
  omega

end Go.Proofs.YtgjineoiebokhaaDoor
