/-
  The tidy file: TidyFile of the program and of the specification. Conditions: at most 1048576 bytes in all.
-/
import Derived.Test.YtclopcbpelhiaaaDoorGrow
import Derived.Test.YtclopcbpelhiaaaDoorCopyF
import Derived.Deep.RegionHeld3
import Derived.Deep.AppendLies
namespace Go.Proofs.YtclopcbpelhiaaaDoor
open Go.RowKit

theorem line2_g (s : ByteArray) (w : World) : Calls Tryd.prog 55 #[.agg #[.string ⟨#[]⟩, .string s, .string ⟨#[]⟩]] w fun e w' => e = .returned (.agg #[.int .i64 2, .string ⟨#[]⟩, .string s, .string ⟨#[]⟩, .string ⟨#[]⟩, .string ⟨#[]⟩]) ∧ Grows w w' :=
  (line_2 ⟨#[]⟩ s ⟨#[]⟩ w).mono fun e w' ⟨h1, h2⟩ => ⟨h1, by rw [h2]; exact ((Grows.refl _).alloc _).alloc _⟩
theorem line3_g (k v : ByteArray) (w : World) : Calls Tryd.prog 53 #[.agg #[.string ⟨#[]⟩, .string k, .string newSep, .string v, .string ⟨#[]⟩]] w fun e w' => e = .returned (.agg #[.int .i64 3, .string ⟨#[]⟩, .string k, .string newSep, .string v, .string ⟨#[]⟩]) ∧ Grows w w' :=
  (line_3 ⟨#[]⟩ k newSep v ⟨#[]⟩ w).mono fun e w' ⟨h1, h2⟩ => ⟨h1, by rw [h2]; exact ((Grows.refl _).alloc _).alloc _⟩
theorem toList_nil_of {s : ByteArray} (h : s.toList.isEmpty = true) : s.toList = [] := by simpa using h

end Go.Proofs.YtclopcbpelhiaaaDoor
