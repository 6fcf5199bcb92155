/-
  A file among the arguments, opened: its lines lie in memory. No condition.
-/
import Derived.Test.YteifcogfnpeahaaMem
import Derived.Test.YteifcogfnpeahaaHelp
import Derived.ProofKit
import Derived.Deep.Slices
import Derived.Deep.Fields
import Derived.ChangeSame
import Derived.ShutString
namespace Go.Proofs.Yteifcogfnpeahaa
open Go.ChangeShapes Go.WideShapes Go.Deep Go.RowKit

section
variable {H : Type} {enc : TypeId × Value → H} {P : Program} {w : World} {base : Nat} {spare : Nat → Bool} {held : Bool}
theorem open_slice_fields {t e : TypeId} {fs : Array Field} {fuel : Nat} {cs : List Value} {x : DataW H × List MemPlace} (ht : P.underlying t = some (.slice e)) (he : P.underlying e = some (.struct fs))
    (hone : oneCellFields P fs = true) (hC : P.cellsOf e = fs.size) (h : DataW.trod enc P w base spare held fuel t cs = some x) :
    (cs = [.slice none 0 0] ∧ x = (.nil, [])) ∨
    ∃ (a : Addr) (len cap m : Nat) (D : Nat → DataW H) (Pl : Nat → List MemPlace), cs = [.slice (some a) len cap] ∧ base ≤ a.block ∧ len ≤ cap ∧ cap ≤ maxLen ∧ m = (if spare a.block then cap else len) ∧
      x = (.slice ((List.range len).map D) ((List.range (m - len)).map fun j => D (len + j)), MemPlace.row a (m * fs.size) ++ (List.range m).flatMap Pl) ∧
      ∀ i, i < m → ∃ (ys : List (DataW H × List MemPlace)) (n : Nat), D i = .agg (ys.map (·.1)) ∧ Pl i = ys.flatMap (·.2) ∧ ys.length = fs.size ∧
        ∀ (j : Nat) (f : Field), fs[j]? = some f → ∃ (v : Value) (y : DataW H × List MemPlace), w.cell? (a.add (i * fs.size + j)) = some v ∧ ys[j]? = some y ∧ DataW.trod enc P w base spare held n f.type [v] = some y := by
  rcases open_slice ht h with h0 | ⟨a, len, cap, m, n, D, Pl, hcs, hb, hl, hm, hmm, hx, hi⟩
  · exact .inl h0
  · refine .inr ⟨a, len, cap, m, D, Pl, hcs, hb, hl, hm, hmm, by rw [hC] at hx; exact hx, fun i him => ?_⟩
    obtain ⟨cs', hc, ht'⟩ := hi i him
    rw [hC] at hc
    obtain ⟨ys, n', hn', hy, hlen, hyl, hf⟩ := DataW.trod_struct he ht'
    obtain ⟨_, hcl, hat⟩ := World.cells?_some hc
    simp only [Prod.mk.injEq] at hy
    refine ⟨ys, n', hy.1, hy.2, hyl, fun j f hj => ?_⟩
    obtain ⟨ho, hk⟩ := hone_of hone j f hj
    have hjl : j < fs.size := (Array.getElem?_eq_some_iff.1 hj).1
    have hcell := hat j hjl
    have hv : cs'[j]? = some (cs'[j]'(by omega)) := List.getElem?_eq_getElem (by omega)
    have h1 := hf j f hj
    rw [ho, hk] at h1
    have hone' : (cs'.drop j).take 1 = [cs'[j]'(by omega)] := by
      rw [List.drop_eq_getElem_cons (by omega)]
      rfl
    rw [hone'] at h1
    have hys : ys[j]? = some (ys[j]'(by omega)) := List.getElem?_eq_getElem (by omega)
    refine ⟨_, _, ?_, hys, h1.trans hys⟩
    rw [← Go.Deep.add_add, hcell, hv]
end

instance instLnOpen : Inhabited Ln := ⟨⟨0, ⟨#[]⟩, ⟨#[]⟩, ⟨#[]⟩, ⟨#[]⟩, ⟨#[]⟩⟩⟩

section
variable {H : Type} {enc : TypeId × Value → H} {w : World} {base : Nat} {spare : Nat → Bool} {held : Bool}
theorem open_lines {fuel : Nat} {v : Value} {x : DataW H × List MemPlace} (h : DataW.trod enc Try.prog w base spare held fuel 52 [v] = some x) :
    ∃ (A : Option Addr) (c : Nat) (ls : List Ln), v = .slice A ls.length c ∧ LnsAt w A ls ∧ (∀ i (h : i < ls.length), ls[i].inReach) ∧ ls.length ≤ maxLen := by
  rcases open_slice_fields Try.underlying52 Try.underlying113 (by kernel_rfl) (by kernel_rfl) h with ⟨hcs, _⟩ | ⟨a, len, cap, m, D, Pl, hcs, _, hl, hm, hmm, _, hi⟩
  · obtain rfl : v = .slice none 0 0 := by simpa using hcs
    exact ⟨none, 0, [], rfl, LnsAt.nil _ _, fun i h => absurd h (Nat.not_lt_zero _), Nat.zero_le _⟩
  · obtain rfl : v = .slice (some a) len cap := by simpa using hcs
    have hlm : len ≤ m := by rw [hmm]; split <;> omega
    have hx : ∀ i, i < len → ∃ l : Ln, (w.cell? (a.add (i * 6 + 0)) = some (.int .i64 l.k) ∧ w.cell? (a.add (i * 6 + 1)) = some (.string l.le) ∧ w.cell? (a.add (i * 6 + 2)) = some (.string l.na) ∧
        w.cell? (a.add (i * 6 + 3)) = some (.string l.se) ∧ w.cell? (a.add (i * 6 + 4)) = some (.string l.va) ∧ w.cell? (a.add (i * 6 + 5)) = some (.string l.ta)) ∧ l.inReach := by
      intro i hil
      obtain ⟨ys, n, _, _, _, hf⟩ := hi i (by omega)
      obtain ⟨v0, y0, k0, _, t0⟩ := hf 0 _ rfl
      obtain ⟨v1, y1, k1, _, t1⟩ := hf 1 _ rfl
      obtain ⟨v2, y2, k2, _, t2⟩ := hf 2 _ rfl
      obtain ⟨v3, y3, k3, _, t3⟩ := hf 3 _ rfl
      obtain ⟨v4, y4, k4, _, t4⟩ := hf 4 _ rfl
      obtain ⟨v5, y5, k5, _, t5⟩ := hf 5 _ rfl
      obtain ⟨z0, e0, _, _⟩ := DataW.trod_int Try.underlying3 t0
      obtain ⟨z1, e1, _, b1⟩ := DataW.trod_string Try.underlying9 t1
      obtain ⟨z2, e2, _, b2⟩ := DataW.trod_string Try.underlying9 t2
      obtain ⟨z3, e3, _, b3⟩ := DataW.trod_string Try.underlying9 t3
      obtain ⟨z4, e4, _, b4⟩ := DataW.trod_string Try.underlying9 t4
      obtain ⟨z5, e5, _, b5⟩ := DataW.trod_string Try.underlying9 t5
      simp only [List.cons.injEq, and_true] at e0 e1 e2 e3 e4 e5
      subst e0 e1 e2 e3 e4 e5
      exact ⟨⟨z0, z1, z2, z3, z4, z5⟩, ⟨k0, k1, k2, k3, k4, k5⟩, b1, b2, b3, b4, b5⟩
    obtain ⟨F, hF⟩ := choose_lt hx
    have hlen : ((List.range len).map F).length = len := by simp
    refine ⟨some a, cap, (List.range len).map F, by rw [hlen], fun h0 => ?_, fun i hi => ?_, by omega⟩
    · rw [hlen] at h0
      obtain ⟨⟨k0, _⟩, _⟩ := hF 0 h0
      have hsp := World.cell?_spot k0
      have hb := block_lt_of_cell k0
      obtain ⟨b, o, s⟩ := a
      have hs : s = none := by simpa [Addr.add] using hsp
      subst hs
      refine ⟨b, o, rfl, by simpa [Addr.add] using hb, fun i hi => ?_⟩
      have hi' : i < len := by simpa using hi
      obtain ⟨⟨c0, c1, c2, c3, c4, c5⟩, _⟩ := hF i hi'
      have hg : ((List.range len).map F)[i] = F i := by simp
      rw [hg]
      have ea : ∀ k, (⟨b, o, none⟩ : Addr).add k = ⟨b, o + k, none⟩ := by intro k; unfold Addr.add; split <;> simp_all
      rw [ea] at c0 c1 c2 c3 c4 c5
      exact ⟨c0, c1, c2, c3, c4, c5⟩
    · have hi' : i < len := by simpa using hi
      have hg : ((List.range len).map F)[i] = F i := by simp
      rw [hg]
      exact (hF i hi').2

set_option maxRecDepth 100000 in
theorem open_file {r : Reach} {b0 : Nat} {v : Value} {d : DataW H} {p : List MemPlace} (hv : Value.okWide Try.prog w r b0 54 v) (h : DataW.Trod enc Try.prog w base spare held 54 v d p) :
    ∃ (A : Option Addr) (c : Nat) (ls : List Ln), v = .agg #[.slice A ls.length c] ∧ LnsAt w A ls ∧ (∀ i (h : i < ls.length), ls[i].inReach) ∧ ls.length ≤ maxLen := by
  obtain ⟨cs, rfl, hsz⟩ := okWide_struct Try.underlying54 hv
  have h1 : Try.prog.cellsOf 54 = 1 := by kernel_rfl
  rw [h1] at hsz
  obtain ⟨fuel, hf⟩ := h
  obtain ⟨xs, n, _, _, _, hlen, hg⟩ := DataW.trod_struct Try.underlying54 hf
  obtain ⟨l⟩ := cs
  match l, hsz with
  | [v0], _ =>
    have g0 := hg 0 _ rfl
    have hc1 : Try.prog.cellsOf 52 = 1 := by kernel_rfl
    match xs, hlen with
    | [y0], _ =>
      obtain ⟨A, c, ls, hv0, hA, hr, hn⟩ := open_lines (fuel := n) (v := v0) (x := y0) (by simpa [Value.cells, hc1] using g0)
      exact ⟨A, c, ls, by rw [hv0], hA, hr, hn⟩
end
end Go.Proofs.Yteifcogfnpeahaa
