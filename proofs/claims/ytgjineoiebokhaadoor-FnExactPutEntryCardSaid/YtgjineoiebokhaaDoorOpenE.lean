/-
  One entry among the arguments, opened.
-/
import Derived.Test.YtgjineoiebokhaaDoorEntH
namespace Go.Proofs.YtgjineoiebokhaaDoor
open Go.ChangeShapes Go.WideShapes Go.RowKit

section
variable {H : Type} {enc : TypeId × Value → H} {w : World} {base : Nat} {spare : Nat → Bool} {held : Bool}
set_option maxRecDepth 100000 in
theorem open_entry {r : Reach} {b0 : Nat} {v : Value} {d : DataW H} {p : List MemPlace} (hv : Value.okWide Tryd.prog w r b0 47 v) (h : DataW.Trod enc Tryd.prog w base spare held 47 v d p) :
    ∃ e : Ent, v = e.agg ∧ e.inReach := by
  obtain ⟨cs, rfl, hsz⟩ := okWide_struct Tryd.underlying47 hv
  have h1 : Tryd.prog.cellsOf 47 = 4 := by kernel_rfl
  rw [h1] at hsz
  obtain ⟨fuel, hf⟩ := h
  obtain ⟨xs, n, _, _, _, hlen, hg⟩ := DataW.trod_struct Tryd.underlying47 hf
  obtain ⟨l⟩ := cs
  match l, hsz with
  | [v0, v1, v2, v3], _ =>
    have g0 := hg 0 _ rfl
    have g1 := hg 1 _ rfl
    have g2 := hg 2 _ rfl
    have g3 := hg 3 _ rfl
    have hc1 : Tryd.prog.cellsOf 9 = 1 := by kernel_rfl
    have hc2 : Tryd.prog.cellsOf 3 = 1 := by kernel_rfl
    match xs, hlen with
    | [y0, y1, y2, y3], _ =>
      obtain ⟨z0, e0, _, b0⟩ := DataW.trod_string Tryd.underlying9 (by simpa [Value.cells, hc1, hc2] using g0)
      obtain ⟨z1, e1, _, b1⟩ := DataW.trod_string Tryd.underlying9 (by simpa [Value.cells, hc1, hc2] using g1)
      obtain ⟨z2, e2, _, _⟩ := DataW.trod_int Tryd.underlying3 (by simpa [Value.cells, hc1, hc2] using g2)
      obtain ⟨z3, e3, _, b3⟩ := DataW.trod_string Tryd.underlying9 (by simpa [Value.cells, hc1, hc2] using g3)
      simp only [List.cons.injEq, and_true] at e0 e1 e2 e3
      subst e0 e1 e2 e3
      exact ⟨⟨z0, z1, z2, z3⟩, rfl, b0, b1, b3⟩
end
end Go.Proofs.YtgjineoiebokhaaDoor
