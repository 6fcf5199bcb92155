/-
  The drawn laws' own helpers: lists of texts and files that are equal, a text in a list, texts that are all different. Condition: at most 1048576 of each.
-/
import Derived.Test.YtkjoolmhcfajnaaDoorFile
import Derived.Test.YtkjoolmhcfajnaaDoorMark
import Derived.Test.YtkjoolmhcfajnaaDoorQP
import Derived.Test.YtkjoolmhcfajnaaDoorGrow
namespace Go.Proofs.YtkjoolmhcfajnaaDoor
open Go.RowKit

theorem quiet_left2 {P : Program} {f : FuncId} {args : Array Value} {w : World} {n : Nat} {v : Value}
    (h : Calls P f args (w.drewN n) fun e w' => e = .returned v ∧ w.drewN n = w') : Calls P f args (w.drewN n) fun e w'' => e = .returned v ∧ ∃ m, w'' = w.drewN m :=
  h.mono fun _ _ ⟨he, hm⟩ => ⟨he, n, hm.symm⟩
theorem OwnS.vals {w : World} {base : Nat} {v : Value} {xs : List ByteArray} (h : OwnS w base v xs) : ∃ A c, v = .slice A xs.length c ∧ ValsAt w A (strs' xs) := by
  obtain ⟨A, c, rfl, hA⟩ := h.form
  refine ⟨A, c, rfl, fun h0 => ?_⟩
  rw [strs_length] at h0
  obtain ⟨g, e, _, hg, hc, _⟩ := hA h0
  refine ⟨g, 0, e, hg, fun i hi => ?_⟩
  rw [strs_length] at hi
  have := hc i hi
  rw [Nat.zero_add, this]
  simp [strs']
theorem ValsAt.take {w : World} {A : Option Addr} {xs : List Value} (h : ValsAt w A xs) (k : Nat) : ValsAt w A (xs.take k) := fun h0 => by
  have hl : (xs.take k).length ≤ xs.length := by rw [List.length_take]; omega
  obtain ⟨b, o, e, hb, hc⟩ := h (by omega)
  refine ⟨b, o, e, hb, fun i hi => ?_⟩
  rw [hc i (by omega), List.getElem_take]
theorem strs_take (xs : List ByteArray) (k : Nat) : strs' (xs.take k) = (strs' xs).take k := by simp [strs', List.map_take]
theorem nodup_take {xs : List ByteArray} (h : xs.Nodup) {k : Nat} (hk : k < xs.length) : hasT (xs.take k) xs[k] = false := by
  rcases hh : hasT (xs.take k) xs[k] with _ | _
  · rfl
  · exfalso
    have h1 := hasT_mem.1 hh
    obtain ⟨i, hi, e⟩ := List.getElem_of_mem h1
    have hi2 : i < k := by simp at hi; omega
    rw [List.getElem_take] at e
    have := (List.getElem_inj h).1 e
    omega
end Go.Proofs.YtkjoolmhcfajnaaDoor
