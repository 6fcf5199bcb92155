/-
  The text of a reference: RefText of both sides, and its law. Conditions: parts no longer than a text may be.
-/
import Derived.Test.YthiefficgmokgaaTidyQ
import Derived.Test.YthiefficgmokgaaMem
import Derived.ProofKit
import Derived.Deep.Slices
import Derived.Deep.Fields
import Derived.ChangeSame
import Derived.ShutString
namespace Go.Proofs.Ythiefficgmokgaa
open Go.ChangeShapes Go.WideShapes Go.Deep Go.RowKit

/-- the text of a reference to the key k of the section r, in the section s -/
def rtext (s r k : ByteArray) : ByteArray := if (r.toList == s.toList) = true then ⟨#[36, 123]⟩ ++ k ++ ⟨#[125]⟩ else ⟨#[36, 123]⟩ ++ r ++ ⟨#[58]⟩ ++ k ++ ⟨#[125]⟩
/-- what RefText makes -/
def refB (s r k : ByteArray) : Bool := vsec s && vplace r k
def refT (s r k : ByteArray) : ByteArray := if refB s r k = true then rtext s r k else ⟨#[]⟩

set_option maxHeartbeats 1000000 in
theorem szRef_any (r k : ByteArray) (left : Int) (w : World) (h0 : 0 ≤ left) (h1 : left ≤ 1048576) (hr : r.size ≤ maxLen) (hk : k.size ≤ maxLen) :
    Calls Try.prog 8 #[.agg #[.string r, .string k], .int .i64 left] w fun e w' => e = .returned (.int .i64 (less left (r.size + k.size))) ∧ Grows w w' := by
  have HL : Hid (r.size + k.size = r.size + k.size) := rfl
  unfold maxLen at hr hk
  go_enter Try.func8, Try.ntmps8
  go_wp2
  all_goals
    go_ret
    exact ⟨ret_int (by have := HL.out; first | (rw [less_no (by omega)]) | (rw [less_of (by omega)]; omega)), (Grows.refl _).alloc _⟩

set_option maxHeartbeats 1000000 in
theorem toRef_any (r k : ByteArray) (w : World) :
    Calls Try.prog 10 #[.agg #[.string r, .string k]] w fun e w' => e = .returned (.agg #[.string r, .string k]) ∧ Grows w w' := by
  go_enter Try.func10, Try.ntmps10
  go_wp2
  refine bodyPost_ret (v := .agg #[.string r, .string k]) (by simp [results, Try.results10, go_sem]) rfl ⟨rfl, (((Grows.refl _).alloc _).alloc _).alloc _⟩

section
variable {H : Type} {enc : TypeId × Value → H} {w : World} {base : Nat} {spare : Nat → Bool} {held : Bool}
set_option maxRecDepth 100000 in
theorem open_ref {r : Reach} {b0 : Nat} {v : Value} {d : DataW H} {p : List MemPlace} (hv : Value.okWide Try.prog w r b0 23 v) (h : DataW.Trod enc Try.prog w base spare held 23 v d p) :
    ∃ s k : ByteArray, v = .agg #[.string s, .string k] ∧ s.size ≤ maxLen ∧ k.size ≤ maxLen := by
  obtain ⟨cs, rfl, hsz⟩ := okWide_struct Try.underlying23 hv
  have h1 : Try.prog.cellsOf 23 = 2 := by kernel_rfl
  rw [h1] at hsz
  obtain ⟨fuel, hf⟩ := h
  obtain ⟨xs, n, _, _, _, hlen, hg⟩ := DataW.trod_struct Try.underlying23 hf
  obtain ⟨l⟩ := cs
  match l, hsz with
  | [v0, v1], _ =>
    have g0 := hg 0 _ rfl
    have g1 := hg 1 _ rfl
    have hc1 : Try.prog.cellsOf 9 = 1 := by kernel_rfl
    match xs, hlen with
    | [y0, y1], _ =>
      obtain ⟨z0, e0, _, b0⟩ := DataW.trod_string Try.underlying9 (by simpa [Value.cells, hc1] using g0)
      obtain ⟨z1, e1, _, b1⟩ := DataW.trod_string Try.underlying9 (by simpa [Value.cells, hc1] using g1)
      simp only [List.cons.injEq, and_true] at e0 e1
      subst e0 e1
      exact ⟨z0, z1, rfl, b0, b1⟩
end
end Go.Proofs.Ythiefficgmokgaa
