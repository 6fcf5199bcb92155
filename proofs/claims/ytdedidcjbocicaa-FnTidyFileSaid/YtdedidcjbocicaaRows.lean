/-
  No cell of these rows narrows 'for every input' (looked for: loops, veiled, ifaces, maps, wideKeys, modest, calm, conditions, laid).
  DERIVED. THE GIVEN ROWS OF THIS SEAT. 3 by the template 'for every input the law returns true; each argument reads behind the call as it read before'; 0 by the template 'total and deterministic' (their statements: YtdedidcjbocicaaTotals.lean).
  GIVEN WITH THE SEED: the statements are not yours to turn. If you find one false, say at which input.
  Laid BY PROGRAM, IN A SANDBOX (cutbox-rows.mjs): the forced cells as the released guide's own fill.sh prints them over the translation 19dfec162ff2e3d3… (all of the seat's roots in one cut). By AI agents, Wed Nov 11 2026. No macro, syntax, notation, axiom, sorry.
-/
import Derived.Test.YtdedidcjbocicaaChecked
import GoSem.Claim
import GoSem.ClaimJoined
import GoSem.ClaimMapViews
import Derived.JoinedTies
import Derived.KernelRfl
namespace Go.Proofs.Ytdedidcjbocicaa
/- THE CELL 'sum', in the pinned program and in every row, IS THE sha256 OF THE DUMP (.gsa) THAT YtdedidcjbocicaaProg.lean LOADS. Nothing in Lean hashes anything: it is a label: what it is worth is what the hold of that sum in a sandbox is worth. -/
noncomputable def Try.pinned : Pinned := { name := "ytdedidcjbocicaa", sum := "19dfec162ff2e3d3bb5459151dc9c9ba856c587dc6e1f47755f60eb7863b0c64", checked := Try.checked }
namespace Rows
def none {H : Type} : Left H := { results := [], args := [] }

/-- 'laws.FnValidFile': WHATEVER THE INPUT: true; the input reads as it did. -/
def fnValidFileSpec : ChangeSpec := { name := "fnValidFile", fn := fun _ => fun
  | [d] => { results := [.lit (.bool true)], args := [d] }
  | _ => none }
def fnValidFileRow : OpenClaim := { program := "ytdedidcjbocicaa", sum := "19dfec162ff2e3d3bb5459151dc9c9ba856c587dc6e1f47755f60eb7863b0c64", func := "loop.example/settinglayers/laws.FnValidFile", spec := "fnValidFile", unfollowed := true, recurses := true, apart := false }
def FnValidFileSaid : Prop := fnValidFileRow.holds Try.pinned (OpenSpec.ofChange fnValidFileSpec)

/-- ITS FALSE NEIGHBOUR: 'it returns false'. Refute it at one input. -/
def fnValidFileWrong : ChangeSpec := { name := "fnValidFile", fn := fun _ => fun
  | [d] => { results := [.lit (.bool false)], args := [d] }
  | _ => none }
def FnValidFileWrongFalsely : Prop := fnValidFileRow.holds Try.pinned (OpenSpec.ofChange fnValidFileWrong)

/-- 'laws.FnAddNote': WHATEVER THE INPUT: true; the input reads as it did. -/
def fnAddNoteSpec : ChangeSpec := { name := "fnAddNote", fn := fun _ => fun
  | [d] => { results := [.lit (.bool true)], args := [d] }
  | _ => none }
def fnAddNoteRow : OpenClaim := { program := "ytdedidcjbocicaa", sum := "19dfec162ff2e3d3bb5459151dc9c9ba856c587dc6e1f47755f60eb7863b0c64", func := "loop.example/settinglayers/laws.FnAddNote", spec := "fnAddNote", unfollowed := true, recurses := true, apart := false }
def FnAddNoteSaid : Prop := fnAddNoteRow.holds Try.pinned (OpenSpec.ofChange fnAddNoteSpec)

/-- ITS FALSE NEIGHBOUR: 'it returns false'. Refute it at one input. -/
def fnAddNoteWrong : ChangeSpec := { name := "fnAddNote", fn := fun _ => fun
  | [d] => { results := [.lit (.bool false)], args := [d] }
  | _ => none }
def FnAddNoteWrongFalsely : Prop := fnAddNoteRow.holds Try.pinned (OpenSpec.ofChange fnAddNoteWrong)

/-- 'laws.FnTidyFile': WHATEVER THE INPUT: true; the input reads as it did. -/
def fnTidyFileSpec : ChangeSpec := { name := "fnTidyFile", fn := fun _ => fun
  | [d] => { results := [.lit (.bool true)], args := [d] }
  | _ => none }
def fnTidyFileRow : OpenClaim := { program := "ytdedidcjbocicaa", sum := "19dfec162ff2e3d3bb5459151dc9c9ba856c587dc6e1f47755f60eb7863b0c64", func := "loop.example/settinglayers/laws.FnTidyFile", spec := "fnTidyFile", unfollowed := true, recurses := true, apart := false }
def FnTidyFileSaid : Prop := fnTidyFileRow.holds Try.pinned (OpenSpec.ofChange fnTidyFileSpec)

/-- ITS FALSE NEIGHBOUR: 'it returns false'. Refute it at one input. -/
def fnTidyFileWrong : ChangeSpec := { name := "fnTidyFile", fn := fun _ => fun
  | [d] => { results := [.lit (.bool false)], args := [d] }
  | _ => none }
def FnTidyFileWrongFalsely : Prop := fnTidyFileRow.holds Try.pinned (OpenSpec.ofChange fnTidyFileWrong)

/- THE SECOND FORM. 'bulk': how many values and letters a reading holds, each counted each time it is reached (what is shared counts as often as it is met; a slice's spare places count too). A statement '..UptoSaid' is the law's where the arguments, and the package variables that the reading takes, are together of bulk at most 1048576: NARROWER than '..Said'. Prove '..Said' where nothing that the law and all that it calls make is longer than what came in: it says more and counts as full. Else prove '..UptoSaid'. A law counts once. -/
mutual
def uptoBulk {H : Type} : DataW H → Nat
  | .lit (.string bytes) => bytes.length + 1
  | .lit _ => 1
  | .nil => 1
  | .ptr d => uptoBulk d + 1
  | .slice elems spare => uptoBulkAll elems + uptoBulkAll spare + 1
  | .agg parts => uptoBulkAll parts + 1
  | .iface _ d => uptoBulk d + 1
  | .map entries => uptoBulkEntries entries + 1
  | .held _ => 1
def uptoBulkAll {H : Type} : List (DataW H) → Nat
  | [] => 0
  | d :: r => uptoBulk d + uptoBulkAll r
def uptoBulkEntries {H : Type} : List (Lit × DataW H) → Nat
  | [] => 0
  | x :: r => uptoBulkEntry x + uptoBulkEntries r
def uptoBulkEntry {H : Type} : Lit × DataW H → Nat
  | (.string bytes, d) => bytes.length + uptoBulk d + 1
  | (_, d) => uptoBulk d + 1
 end
def uptoSmall : (H : Type) → List (DataW H) → Bool := fun _ ds => decide (uptoBulkAll ds ≤ 1048576)
def OpenSpec.upto (s : _root_.Go.ChangeSpec) : _root_.Go.OpenSpec := { _root_.Go.OpenSpec.ofChange s with cond := some uptoSmall }

/-- 'laws.FnValidFile', WHERE WHAT IT READS IS OF BULK AT MOST 1048576: true; the input reads as it did. -/
def fnValidFileUptoRow : OpenClaim := { program := "ytdedidcjbocicaa", sum := "19dfec162ff2e3d3bb5459151dc9c9ba856c587dc6e1f47755f60eb7863b0c64", func := "loop.example/settinglayers/laws.FnValidFile", spec := "fnValidFile", unfollowed := true, recurses := true, apart := false, narrowed := true }
def FnValidFileUptoSaid : Prop := fnValidFileUptoRow.holds Try.pinned (OpenSpec.upto fnValidFileSpec)

/-- 'laws.FnAddNote', WHERE WHAT IT READS IS OF BULK AT MOST 1048576: true; the input reads as it did. -/
def fnAddNoteUptoRow : OpenClaim := { program := "ytdedidcjbocicaa", sum := "19dfec162ff2e3d3bb5459151dc9c9ba856c587dc6e1f47755f60eb7863b0c64", func := "loop.example/settinglayers/laws.FnAddNote", spec := "fnAddNote", unfollowed := true, recurses := true, apart := false, narrowed := true }
def FnAddNoteUptoSaid : Prop := fnAddNoteUptoRow.holds Try.pinned (OpenSpec.upto fnAddNoteSpec)

/-- 'laws.FnTidyFile', WHERE WHAT IT READS IS OF BULK AT MOST 1048576: true; the input reads as it did. -/
def fnTidyFileUptoRow : OpenClaim := { program := "ytdedidcjbocicaa", sum := "19dfec162ff2e3d3bb5459151dc9c9ba856c587dc6e1f47755f60eb7863b0c64", func := "loop.example/settinglayers/laws.FnTidyFile", spec := "fnTidyFile", unfollowed := true, recurses := true, apart := false, narrowed := true }
def FnTidyFileUptoSaid : Prop := fnTidyFileUptoRow.holds Try.pinned (OpenSpec.upto fnTidyFileSpec)

end Rows
end Go.Proofs.Ytdedidcjbocicaa
