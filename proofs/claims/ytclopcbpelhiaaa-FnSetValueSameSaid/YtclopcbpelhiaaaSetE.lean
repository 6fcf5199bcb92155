/-
  SetValue of the specification at files whose capacity is their length. Conditions as there.
-/
import Derived.Test.YtclopcbpelhiaaaSetD
namespace Go.Proofs.Ytclopcbpelhiaaa
open Go.RowKit
theorem specSet_n (A : Addr) (ls : List Ln) (s key v : ByteArray) (w : World) (hf : AllFit ls) (hs : s.size ≤ 1048576) (hk : key.size ≤ 1048576) (hv : v.size ≤ 1048576) (hA : LnsAt w (some A) ls) :
    Calls Try.prog 9 #[.agg #[.slice (some A) ls.length ls.length], .string s, .string key, .string v] w (ResLB (setL ls s key v) (setB ls s key v) w) :=
  specSet_any (some A) ls.length ls s key v w hf hs hk hv hA
end Go.Proofs.Ytclopcbpelhiaaa
