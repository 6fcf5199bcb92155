/-
  The laws of ValidLayer and IsFlat: whatever the layer, they return true. Conditions: parts no longer than a text may be.
-/
import Derived.Test.YtkbpcdhgicecfaaDoorLayY
namespace Go.Proofs.YtkbpcdhgicecfaaDoor
open Go.RowKit

theorem OwnE.formC {w : World} {base : Nat} {v : Value} {es : List Ent} (h : OwnE w base v es) : ∃ A c, v = .slice A es.length c ∧ es.length ≤ c ∧ EntsAt w A es := by
  obtain ⟨A, c, hv, hA⟩ := h.form
  refine ⟨A, c, hv, ?_, hA⟩
  rcases h.2 with ⟨h1, h0⟩ | ⟨g, cap, cur, h1, _, _, hc, _⟩
  · omega
  · rw [hv] at h1
    injection h1 with _ _ h3
    omega

/-- all entries set -/
def flatE (es : List Ent) : Bool := es.all fun e => decide (e.op = 0)
def vflat (es : List Ent) : Bool := flatE es && vlayer es
theorem vflat_no {es : List Ent} {k : Nat} (hk : k < es.length) (h : ¬ es[k].op = 0) : vflat es = false := by
  unfold vflat flatE
  rw [all_take_not (k := k + 1) (by rw [all_step hk]; simp [h])]; rfl

end Go.Proofs.YtkbpcdhgicecfaaDoor
