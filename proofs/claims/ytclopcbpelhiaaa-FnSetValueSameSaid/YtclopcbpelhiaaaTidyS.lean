/-
  The tidy file of the specification. Conditions: at most 1048576 bytes in all.
-/
import Derived.Test.YtclopcbpelhiaaaTidy
import Derived.Test.YtclopcbpelhiaaaRegM
namespace Go.Proofs.Ytclopcbpelhiaaa
open Go.RowKit

set_option maxHeartbeats 1000000 in
theorem newPair_any (k v : ByteArray) (w : World) : Calls Try.prog 41 #[.string k, .string v] w fun e w' => e = .returned (.agg #[.int .i64 3, .string ⟨#[]⟩, .string k, .string newSep, .string v, .string ⟨#[]⟩]) ∧ Grows w w' := by
  go_enter Try.func41, Try.ntmps41
  go_wp2
  exact bodyPost_ret (v := .agg #[.int .i64 3, .string ⟨#[]⟩, .string k, .string newSep, .string v, .string ⟨#[]⟩]) (by simp [results, Try.results41, go_sem, newSep]) rfl ⟨rfl, ((Grows.refl _).alloc _)⟩

end Go.Proofs.Ytclopcbpelhiaaa
