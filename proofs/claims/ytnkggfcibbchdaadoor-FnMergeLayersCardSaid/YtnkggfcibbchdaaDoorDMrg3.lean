/-
  The drawn law of MergeLayers, three of them: whatever its bytes, it returns true. Condition: no more bytes than a slice may have.
-/
import Derived.Test.YtnkggfcibbchdaaDoorDrwT
import Derived.Test.YtnkggfcibbchdaaDoorMrgM
import Derived.Test.YtnkggfcibbchdaaDoorMrgI
import Derived.Test.YtnkggfcibbchdaaDoorMrgX
import Derived.Test.YtnkggfcibbchdaaDoorLayH
namespace Go.Proofs.YtnkggfcibbchdaaDoor
open Go.RowKit

theorem implMrg_own (v u : Value) (b1 b2 : Nat) (xs bs : List Ent) (w : World) (hf : EFit xs) (hg : EFit bs) (h1 : OwnE w b1 v xs) (h2 : OwnE w b2 u bs) :
    Calls Tryd.prog 9 #[.agg #[v], .agg #[u]] w (ResEB (mergeL xs bs) (mergeB xs bs) w) := by
  obtain ⟨A, c, rfl, hc, hA⟩ := h1.formC
  obtain ⟨B, d, rfl, hd, hB⟩ := h2.formC
  exact implMrg_any A c xs B d bs w hc hd hf hA hg hB
theorem specMrg_own (v u : Value) (b1 b2 : Nat) (xs bs : List Ent) (w : World) (hf : EFit xs) (hg : EFit bs) (h1 : OwnE w b1 v xs) (h2 : OwnE w b2 u bs) :
    Calls Tryd.prog 10 #[.agg #[v], .agg #[u]] w (ResEB (mergeL xs bs) (mergeB xs bs) w) := by
  obtain ⟨A, c, rfl, hc, hA⟩ := h1.formC
  obtain ⟨B, d, rfl, hd, hB⟩ := h2.formC
  exact specMrg_any A c xs B d bs w hc hd hf hA hg hB
theorem implSame_own (v u : Value) (b1 b2 : Nat) (xs bs : List Ent) (w : World) (hf : EFit xs) (hg : EFit bs) (h1 : OwnE w b1 v xs) (h2 : OwnE w b2 u bs) :
    Calls Tryd.prog 23 #[.agg #[v], .agg #[u]] w fun e w' => e = .returned (.bool (sameL xs bs)) ∧ Grows w w' := by
  obtain ⟨A, c, rfl, hc, hA⟩ := h1.formC
  obtain ⟨B, d, rfl, hd, hB⟩ := h2.formC
  exact implSame_any A c xs B d bs w hf hA hg hB
theorem efit_nil : EFit [] := ⟨Nat.zero_le _, fun _ h => absurd h (Nat.not_lt_zero _)⟩
theorem mergeL_fit (xs bs : List Ent) : EFit (mergeL xs bs) := by
  unfold mergeL
  split
  · rename_i h
    unfold chkE
    split
    · exact mergeR_fit h.1 h.2
    · exact efit_nil
  · exact efit_nil
/-- the law's third layer -/
def third : List Ent := [⟨⟨#[97]⟩, ⟨#[120]⟩, 2, ⟨#[109]⟩⟩, ⟨⟨#[]⟩, ⟨#[121]⟩, 0, ⟨#[110]⟩⟩, ⟨⟨#[98]⟩, ⟨#[122]⟩, 1, ⟨#[]⟩⟩]
theorem third_fit : EFit third := by
  have h0 : (⟨#[]⟩ : ByteArray).size = 0 := rfl
  have h1 : (⟨#[97]⟩ : ByteArray).size = 1 := rfl
  have h2 : (⟨#[120]⟩ : ByteArray).size = 1 := rfl
  have h3 : (⟨#[109]⟩ : ByteArray).size = 1 := rfl
  have h4 : (⟨#[121]⟩ : ByteArray).size = 1 := rfl
  have h5 : (⟨#[110]⟩ : ByteArray).size = 1 := rfl
  have h6 : (⟨#[98]⟩ : ByteArray).size = 1 := rfl
  have h7 : (⟨#[122]⟩ : ByteArray).size = 1 := rfl
  refine ⟨by show 3 ≤ 1048576; omega, fun i hi => ?_⟩
  have hi' : i < 3 := hi
  match i, hi' with
  | 0, _ => exact ⟨by show (⟨#[97]⟩ : ByteArray).size ≤ 1048576; omega, by show (⟨#[120]⟩ : ByteArray).size ≤ 1048576; omega, by show (⟨#[109]⟩ : ByteArray).size ≤ 1048576; omega⟩
  | 1, _ => exact ⟨by show (⟨#[]⟩ : ByteArray).size ≤ 1048576; omega, by show (⟨#[121]⟩ : ByteArray).size ≤ 1048576; omega, by show (⟨#[110]⟩ : ByteArray).size ≤ 1048576; omega⟩
  | 2, _ => exact ⟨by show (⟨#[98]⟩ : ByteArray).size ≤ 1048576; omega, by show (⟨#[122]⟩ : ByteArray).size ≤ 1048576; omega, by show (⟨#[]⟩ : ByteArray).size ≤ 1048576; omega⟩
theorem third_own (w : World) (base : Nat) (hb : base ≤ w.heap.size) : OwnE (w.alloc (.cells #[.string ⟨#[97]⟩, .string ⟨#[120]⟩, .int .i64 2, .string ⟨#[109]⟩, .string ⟨#[]⟩, .string ⟨#[121]⟩, .int .i64 0, .string ⟨#[110]⟩, .string ⟨#[98]⟩, .string ⟨#[122]⟩, .int .i64 1, .string ⟨#[]⟩] 36)) base (.slice (some ⟨w.heap.size, 0, none⟩) 3 3) third :=
  World.ownsRow_lit w #[.string ⟨#[97]⟩, .string ⟨#[120]⟩, .int .i64 2, .string ⟨#[109]⟩, .string ⟨#[]⟩, .string ⟨#[121]⟩, .int .i64 0, .string ⟨#[110]⟩, .string ⟨#[98]⟩, .string ⟨#[122]⟩, .int .i64 1, .string ⟨#[]⟩] 3 hb (by unfold maxLen; omega) rfl

end Go.Proofs.YtnkggfcibbchdaaDoor
