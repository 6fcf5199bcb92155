/-
  The drawn law of WhereIs: whatever its bytes, it returns true. Condition: no more bytes than a slice may have.
-/
import Derived.Test.YtclopcbpelhiaaaDoorDrw
import Derived.Test.YtclopcbpelhiaaaDoorLawH
import Derived.Test.YtclopcbpelhiaaaDoorQP
import Derived.Test.YtclopcbpelhiaaaDoorSec
namespace Go.Proofs.YtclopcbpelhiaaaDoor
open Go.RowKit

theorem ShortL.fit {K : List Ln} (h : ShortL K) (hK : K.length ≤ 100) : AllFit K := by
  refine ⟨by omega, fun i hi => ?_⟩
  obtain ⟨_, h1, h2, h3, h4, h5⟩ := h K[i] (List.getElem_mem hi)
  unfold Ln.fits maxLen
  omega

end Go.Proofs.YtclopcbpelhiaaaDoor
