/-
  Lists of texts that have each text once, by the program's generic addOnce: the contract under its other name. Condition: at most 1048576 texts.
-/
import Derived.Test.YtgjineoiebokhaaDoorMark
namespace Go.Proofs.YtgjineoiebokhaaDoor
open Go.RowKit
theorem addOnceG_any (v : Value) (base : Nat) (xs : List ByteArray) (s : ByteArray) (w : World) (hn : xs.length ≤ 1048576) (hb : base ≤ w.heap.size) (h1 : OwnS w base v xs) :
    Calls Tryd.prog 48 #[v, .string s] w (AddRet base (addT xs s) w) := addOnce_any v base xs s w hn hb h1
end Go.Proofs.YtgjineoiebokhaaDoor
