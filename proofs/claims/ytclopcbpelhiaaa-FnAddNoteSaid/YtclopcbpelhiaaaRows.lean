/-
  No cell of these rows narrows 'for every input' (looked for: loops, veiled, ifaces, maps, wideKeys, modest, calm, conditions, laid).
  DERIVED. THE GIVEN ROWS OF THIS SEAT. 4 by the template 'for every input the law returns true; each argument reads behind the call as it read before'; 0 by the template 'total and deterministic' (their statements: YtclopcbpelhiaaaTotals.lean).
  GIVEN WITH THE SEED: the statements are not yours to turn. If you find one false, say at which input.
  Laid BY PROGRAM, IN A SANDBOX (cutbox-rows.mjs): the forced cells as the released guide's own fill.sh prints them over the translation c2cb9d5d689ef263… (all of the seat's roots in one cut). By AI agents, Wed Nov 11 2026. No macro, syntax, notation, axiom, sorry.
-/
import Derived.Test.YtclopcbpelhiaaaChecked
import GoSem.Claim
import GoSem.ClaimJoined
import GoSem.ClaimMapViews
import Derived.JoinedTies
import Derived.KernelRfl
namespace Go.Proofs.Ytclopcbpelhiaaa
/- THE CELL 'sum', in the pinned program and in every row, IS THE sha256 OF THE DUMP (.gsa) THAT YtclopcbpelhiaaaProg.lean LOADS. Nothing in Lean hashes anything: it is a label: what it is worth is what the hold of that sum in a sandbox is worth. -/
noncomputable def Try.pinned : Pinned := { name := "ytclopcbpelhiaaa", sum := "c2cb9d5d689ef263b3da0e693a6f56a101e815d33e5325b0d78174c388f7168a", checked := Try.checked }
namespace Rows
def none {H : Type} : Left H := { results := [], args := [] }

/-- 'laws.FnSetValue': WHATEVER THE INPUT: true; the input reads as it did. -/
def fnSetValueSpec : ChangeSpec := { name := "fnSetValue", fn := fun _ => fun
  | [d] => { results := [.lit (.bool true)], args := [d] }
  | _ => none }
def fnSetValueRow : OpenClaim := { program := "ytclopcbpelhiaaa", sum := "c2cb9d5d689ef263b3da0e693a6f56a101e815d33e5325b0d78174c388f7168a", func := "loop.example/settinglayers/laws.FnSetValue", spec := "fnSetValue", unfollowed := true, recurses := true, apart := false }
def FnSetValueSaid : Prop := fnSetValueRow.holds Try.pinned (OpenSpec.ofChange fnSetValueSpec)

/-- ITS FALSE NEIGHBOUR: 'it returns false'. Refute it at one input. -/
def fnSetValueWrong : ChangeSpec := { name := "fnSetValue", fn := fun _ => fun
  | [d] => { results := [.lit (.bool false)], args := [d] }
  | _ => none }
def FnSetValueWrongFalsely : Prop := fnSetValueRow.holds Try.pinned (OpenSpec.ofChange fnSetValueWrong)

/-- 'laws.FnSetValueSame': WHATEVER THE INPUT: true; the input reads as it did. -/
def fnSetValueSameSpec : ChangeSpec := { name := "fnSetValueSame", fn := fun _ => fun
  | [d] => { results := [.lit (.bool true)], args := [d] }
  | _ => none }
def fnSetValueSameRow : OpenClaim := { program := "ytclopcbpelhiaaa", sum := "c2cb9d5d689ef263b3da0e693a6f56a101e815d33e5325b0d78174c388f7168a", func := "loop.example/settinglayers/laws.FnSetValueSame", spec := "fnSetValueSame", unfollowed := true, recurses := true, apart := false }
def FnSetValueSameSaid : Prop := fnSetValueSameRow.holds Try.pinned (OpenSpec.ofChange fnSetValueSameSpec)

/-- ITS FALSE NEIGHBOUR: 'it returns false'. Refute it at one input. -/
def fnSetValueSameWrong : ChangeSpec := { name := "fnSetValueSame", fn := fun _ => fun
  | [d] => { results := [.lit (.bool false)], args := [d] }
  | _ => none }
def FnSetValueSameWrongFalsely : Prop := fnSetValueSameRow.holds Try.pinned (OpenSpec.ofChange fnSetValueSameWrong)

/-- 'laws.FnSetValueDrop': WHATEVER THE INPUT: true; the input reads as it did. -/
def fnSetValueDropSpec : ChangeSpec := { name := "fnSetValueDrop", fn := fun _ => fun
  | [d] => { results := [.lit (.bool true)], args := [d] }
  | _ => none }
def fnSetValueDropRow : OpenClaim := { program := "ytclopcbpelhiaaa", sum := "c2cb9d5d689ef263b3da0e693a6f56a101e815d33e5325b0d78174c388f7168a", func := "loop.example/settinglayers/laws.FnSetValueDrop", spec := "fnSetValueDrop", unfollowed := true, recurses := true, apart := false }
def FnSetValueDropSaid : Prop := fnSetValueDropRow.holds Try.pinned (OpenSpec.ofChange fnSetValueDropSpec)

/-- ITS FALSE NEIGHBOUR: 'it returns false'. Refute it at one input. -/
def fnSetValueDropWrong : ChangeSpec := { name := "fnSetValueDrop", fn := fun _ => fun
  | [d] => { results := [.lit (.bool false)], args := [d] }
  | _ => none }
def FnSetValueDropWrongFalsely : Prop := fnSetValueDropRow.holds Try.pinned (OpenSpec.ofChange fnSetValueDropWrong)

/-- 'laws.FnAddNote': WHATEVER THE INPUT: true; the input reads as it did. -/
def fnAddNoteSpec : ChangeSpec := { name := "fnAddNote", fn := fun _ => fun
  | [d] => { results := [.lit (.bool true)], args := [d] }
  | _ => none }
def fnAddNoteRow : OpenClaim := { program := "ytclopcbpelhiaaa", sum := "c2cb9d5d689ef263b3da0e693a6f56a101e815d33e5325b0d78174c388f7168a", func := "loop.example/settinglayers/laws.FnAddNote", spec := "fnAddNote", unfollowed := true, recurses := true, apart := false }
def FnAddNoteSaid : Prop := fnAddNoteRow.holds Try.pinned (OpenSpec.ofChange fnAddNoteSpec)

/-- ITS FALSE NEIGHBOUR: 'it returns false'. Refute it at one input. -/
def fnAddNoteWrong : ChangeSpec := { name := "fnAddNote", fn := fun _ => fun
  | [d] => { results := [.lit (.bool false)], args := [d] }
  | _ => none }
def FnAddNoteWrongFalsely : Prop := fnAddNoteRow.holds Try.pinned (OpenSpec.ofChange fnAddNoteWrong)

/- THE SECOND FORM. 'bulk': how many values and letters a reading holds, each counted each time it is reached (what is shared counts as often as it is met; a slice's spare places count too). A statement '..UptoSaid' is the law's where the arguments, and the package variables that the reading takes, are together of bulk at most 1048576: NARROWER than '..Said'. Prove '..Said' where nothing that the law and all that it calls make is longer than what came in: it says more and counts as full. Else prove '..UptoSaid'. A law counts once. -/
mutual
def uptoBulk {H : Type} : DataW H → Nat
  | .lit (.string bytes) => bytes.length + 1
  | .lit _ => 1
  | .nil => 1
  | .ptr d => uptoBulk d + 1
  | .slice elems spare => uptoBulkAll elems + uptoBulkAll spare + 1
  | .agg parts => uptoBulkAll parts + 1
  | .iface _ d => uptoBulk d + 1
  | .map entries => uptoBulkEntries entries + 1
  | .held _ => 1
def uptoBulkAll {H : Type} : List (DataW H) → Nat
  | [] => 0
  | d :: r => uptoBulk d + uptoBulkAll r
def uptoBulkEntries {H : Type} : List (Lit × DataW H) → Nat
  | [] => 0
  | x :: r => uptoBulkEntry x + uptoBulkEntries r
def uptoBulkEntry {H : Type} : Lit × DataW H → Nat
  | (.string bytes, d) => bytes.length + uptoBulk d + 1
  | (_, d) => uptoBulk d + 1
 end
def uptoSmall : (H : Type) → List (DataW H) → Bool := fun _ ds => decide (uptoBulkAll ds ≤ 1048576)
def OpenSpec.upto (s : _root_.Go.ChangeSpec) : _root_.Go.OpenSpec := { _root_.Go.OpenSpec.ofChange s with cond := some uptoSmall }

/-- 'laws.FnSetValue', WHERE WHAT IT READS IS OF BULK AT MOST 1048576: true; the input reads as it did. -/
def fnSetValueUptoRow : OpenClaim := { program := "ytclopcbpelhiaaa", sum := "c2cb9d5d689ef263b3da0e693a6f56a101e815d33e5325b0d78174c388f7168a", func := "loop.example/settinglayers/laws.FnSetValue", spec := "fnSetValue", unfollowed := true, recurses := true, apart := false, narrowed := true }
def FnSetValueUptoSaid : Prop := fnSetValueUptoRow.holds Try.pinned (OpenSpec.upto fnSetValueSpec)

/-- 'laws.FnSetValueSame', WHERE WHAT IT READS IS OF BULK AT MOST 1048576: true; the input reads as it did. -/
def fnSetValueSameUptoRow : OpenClaim := { program := "ytclopcbpelhiaaa", sum := "c2cb9d5d689ef263b3da0e693a6f56a101e815d33e5325b0d78174c388f7168a", func := "loop.example/settinglayers/laws.FnSetValueSame", spec := "fnSetValueSame", unfollowed := true, recurses := true, apart := false, narrowed := true }
def FnSetValueSameUptoSaid : Prop := fnSetValueSameUptoRow.holds Try.pinned (OpenSpec.upto fnSetValueSameSpec)

/-- 'laws.FnSetValueDrop', WHERE WHAT IT READS IS OF BULK AT MOST 1048576: true; the input reads as it did. -/
def fnSetValueDropUptoRow : OpenClaim := { program := "ytclopcbpelhiaaa", sum := "c2cb9d5d689ef263b3da0e693a6f56a101e815d33e5325b0d78174c388f7168a", func := "loop.example/settinglayers/laws.FnSetValueDrop", spec := "fnSetValueDrop", unfollowed := true, recurses := true, apart := false, narrowed := true }
def FnSetValueDropUptoSaid : Prop := fnSetValueDropUptoRow.holds Try.pinned (OpenSpec.upto fnSetValueDropSpec)

/-- 'laws.FnAddNote', WHERE WHAT IT READS IS OF BULK AT MOST 1048576: true; the input reads as it did. -/
def fnAddNoteUptoRow : OpenClaim := { program := "ytclopcbpelhiaaa", sum := "c2cb9d5d689ef263b3da0e693a6f56a101e815d33e5325b0d78174c388f7168a", func := "loop.example/settinglayers/laws.FnAddNote", spec := "fnAddNote", unfollowed := true, recurses := true, apart := false, narrowed := true }
def FnAddNoteUptoSaid : Prop := fnAddNoteUptoRow.holds Try.pinned (OpenSpec.upto fnAddNoteSpec)

end Rows
end Go.Proofs.Ytclopcbpelhiaaa
