/-
  No cell of these rows narrows 'for every input' (looked for: loops, veiled, ifaces, maps, wideKeys, modest, calm, conditions, laid).
  DERIVED. THE GIVEN ROWS OF THIS SEAT. 9 by the template 'for every input the law returns true; each argument reads behind the call as it read before'; 0 by the template 'total and deterministic' (their statements: YthgfmbhopppkmaaTotals.lean).
  GIVEN WITH THE SEED: the statements are not yours to turn. If you find one false, say at which input.
  Laid BY PROGRAM, IN A SANDBOX (cutbox-rows.mjs): the forced cells as the released guide's own fill.sh prints them over the translation 67dbd51fe7118dcd… (all of the seat's roots in one cut). By AI agents, Wed Nov 11 2026. No macro, syntax, notation, axiom, sorry.
-/
import Derived.Test.YthgfmbhopppkmaaChecked
import GoSem.Claim
import GoSem.ClaimJoined
import GoSem.ClaimMapViews
import Derived.JoinedTies
import Derived.KernelRfl
namespace Go.Proofs.Ythgfmbhopppkmaa
/- THE CELL 'sum', in the pinned program and in every row, IS THE sha256 OF THE DUMP (.gsa) THAT YthgfmbhopppkmaaProg.lean LOADS. Nothing in Lean hashes anything: it is a label: what it is worth is what the hold of that sum in a sandbox is worth. -/
noncomputable def Try.pinned : Pinned := { name := "ythgfmbhopppkmaa", sum := "67dbd51fe7118dcddcfaa70ae5d487f456c2d54f0650fb363d335a8a7a9d6d61", checked := Try.checked }
namespace Rows
def none {H : Type} : Left H := { results := [], args := [] }

/-- 'laws.FnExactTidyFile': WHATEVER THE INPUT: true; the input reads as it did. -/
def fnExactTidyFileSpec : ChangeSpec := { name := "fnExactTidyFile", fn := fun _ => fun
  | [d] => { results := [.lit (.bool true)], args := [d] }
  | _ => none }
def fnExactTidyFileRow : OpenClaim := { program := "ythgfmbhopppkmaa", sum := "67dbd51fe7118dcddcfaa70ae5d487f456c2d54f0650fb363d335a8a7a9d6d61", func := "loop.example/settinglayers/laws.FnExactTidyFile", spec := "fnExactTidyFile", unfollowed := true, recurses := true, apart := false }
def FnExactTidyFileSaid : Prop := fnExactTidyFileRow.holds Try.pinned (OpenSpec.ofChange fnExactTidyFileSpec)

/-- ITS FALSE NEIGHBOUR: 'it returns false'. Refute it at one input. -/
def fnExactTidyFileWrong : ChangeSpec := { name := "fnExactTidyFile", fn := fun _ => fun
  | [d] => { results := [.lit (.bool false)], args := [d] }
  | _ => none }
def FnExactTidyFileWrongFalsely : Prop := fnExactTidyFileRow.holds Try.pinned (OpenSpec.ofChange fnExactTidyFileWrong)

/-- 'laws.FnExactSameMeaning': WHATEVER THE INPUT: true; the input reads as it did. -/
def fnExactSameMeaningSpec : ChangeSpec := { name := "fnExactSameMeaning", fn := fun _ => fun
  | [d1, d2] => { results := [.lit (.bool true)], args := [d1, d2] }
  | _ => none }
def fnExactSameMeaningRow : OpenClaim := { program := "ythgfmbhopppkmaa", sum := "67dbd51fe7118dcddcfaa70ae5d487f456c2d54f0650fb363d335a8a7a9d6d61", func := "loop.example/settinglayers/laws.FnExactSameMeaning", spec := "fnExactSameMeaning", unfollowed := true, recurses := true, apart := false }
def FnExactSameMeaningSaid : Prop := fnExactSameMeaningRow.holds Try.pinned (OpenSpec.ofChange fnExactSameMeaningSpec)

/-- ITS FALSE NEIGHBOUR: 'it returns false'. Refute it at one input. -/
def fnExactSameMeaningWrong : ChangeSpec := { name := "fnExactSameMeaning", fn := fun _ => fun
  | [d1, d2] => { results := [.lit (.bool false)], args := [d1, d2] }
  | _ => none }
def FnExactSameMeaningWrongFalsely : Prop := fnExactSameMeaningRow.holds Try.pinned (OpenSpec.ofChange fnExactSameMeaningWrong)

/-- 'laws.FnExactSetValue': WHATEVER THE INPUT: true; the input reads as it did. -/
def fnExactSetValueSpec : ChangeSpec := { name := "fnExactSetValue", fn := fun _ => fun
  | [d1, d2, d3, d4] => { results := [.lit (.bool true)], args := [d1, d2, d3, d4] }
  | _ => none }
def fnExactSetValueRow : OpenClaim := { program := "ythgfmbhopppkmaa", sum := "67dbd51fe7118dcddcfaa70ae5d487f456c2d54f0650fb363d335a8a7a9d6d61", func := "loop.example/settinglayers/laws.FnExactSetValue", spec := "fnExactSetValue", unfollowed := true, recurses := true, apart := false }
def FnExactSetValueSaid : Prop := fnExactSetValueRow.holds Try.pinned (OpenSpec.ofChange fnExactSetValueSpec)

/-- ITS FALSE NEIGHBOUR: 'it returns false'. Refute it at one input. -/
def fnExactSetValueWrong : ChangeSpec := { name := "fnExactSetValue", fn := fun _ => fun
  | [d1, d2, d3, d4] => { results := [.lit (.bool false)], args := [d1, d2, d3, d4] }
  | _ => none }
def FnExactSetValueWrongFalsely : Prop := fnExactSetValueRow.holds Try.pinned (OpenSpec.ofChange fnExactSetValueWrong)

/-- 'laws.FnExactDropKey': WHATEVER THE INPUT: true; the input reads as it did. -/
def fnExactDropKeySpec : ChangeSpec := { name := "fnExactDropKey", fn := fun _ => fun
  | [d1, d2, d3] => { results := [.lit (.bool true)], args := [d1, d2, d3] }
  | _ => none }
def fnExactDropKeyRow : OpenClaim := { program := "ythgfmbhopppkmaa", sum := "67dbd51fe7118dcddcfaa70ae5d487f456c2d54f0650fb363d335a8a7a9d6d61", func := "loop.example/settinglayers/laws.FnExactDropKey", spec := "fnExactDropKey", unfollowed := true, recurses := true, apart := false }
def FnExactDropKeySaid : Prop := fnExactDropKeyRow.holds Try.pinned (OpenSpec.ofChange fnExactDropKeySpec)

/-- ITS FALSE NEIGHBOUR: 'it returns false'. Refute it at one input. -/
def fnExactDropKeyWrong : ChangeSpec := { name := "fnExactDropKey", fn := fun _ => fun
  | [d1, d2, d3] => { results := [.lit (.bool false)], args := [d1, d2, d3] }
  | _ => none }
def FnExactDropKeyWrongFalsely : Prop := fnExactDropKeyRow.holds Try.pinned (OpenSpec.ofChange fnExactDropKeyWrong)

/-- 'laws.FnExactDropSection': WHATEVER THE INPUT: true; the input reads as it did. -/
def fnExactDropSectionSpec : ChangeSpec := { name := "fnExactDropSection", fn := fun _ => fun
  | [d1, d2] => { results := [.lit (.bool true)], args := [d1, d2] }
  | _ => none }
def fnExactDropSectionRow : OpenClaim := { program := "ythgfmbhopppkmaa", sum := "67dbd51fe7118dcddcfaa70ae5d487f456c2d54f0650fb363d335a8a7a9d6d61", func := "loop.example/settinglayers/laws.FnExactDropSection", spec := "fnExactDropSection", unfollowed := true, recurses := true, apart := false }
def FnExactDropSectionSaid : Prop := fnExactDropSectionRow.holds Try.pinned (OpenSpec.ofChange fnExactDropSectionSpec)

/-- ITS FALSE NEIGHBOUR: 'it returns false'. Refute it at one input. -/
def fnExactDropSectionWrong : ChangeSpec := { name := "fnExactDropSection", fn := fun _ => fun
  | [d1, d2] => { results := [.lit (.bool false)], args := [d1, d2] }
  | _ => none }
def FnExactDropSectionWrongFalsely : Prop := fnExactDropSectionRow.holds Try.pinned (OpenSpec.ofChange fnExactDropSectionWrong)

/-- 'laws.FnExactRenameKey': WHATEVER THE INPUT: true; the input reads as it did. -/
def fnExactRenameKeySpec : ChangeSpec := { name := "fnExactRenameKey", fn := fun _ => fun
  | [d1, d2, d3, d4] => { results := [.lit (.bool true)], args := [d1, d2, d3, d4] }
  | _ => none }
def fnExactRenameKeyRow : OpenClaim := { program := "ythgfmbhopppkmaa", sum := "67dbd51fe7118dcddcfaa70ae5d487f456c2d54f0650fb363d335a8a7a9d6d61", func := "loop.example/settinglayers/laws.FnExactRenameKey", spec := "fnExactRenameKey", unfollowed := true, recurses := true, apart := false }
def FnExactRenameKeySaid : Prop := fnExactRenameKeyRow.holds Try.pinned (OpenSpec.ofChange fnExactRenameKeySpec)

/-- ITS FALSE NEIGHBOUR: 'it returns false'. Refute it at one input. -/
def fnExactRenameKeyWrong : ChangeSpec := { name := "fnExactRenameKey", fn := fun _ => fun
  | [d1, d2, d3, d4] => { results := [.lit (.bool false)], args := [d1, d2, d3, d4] }
  | _ => none }
def FnExactRenameKeyWrongFalsely : Prop := fnExactRenameKeyRow.holds Try.pinned (OpenSpec.ofChange fnExactRenameKeyWrong)

/-- 'laws.FnExactRenameSection': WHATEVER THE INPUT: true; the input reads as it did. -/
def fnExactRenameSectionSpec : ChangeSpec := { name := "fnExactRenameSection", fn := fun _ => fun
  | [d1, d2, d3] => { results := [.lit (.bool true)], args := [d1, d2, d3] }
  | _ => none }
def fnExactRenameSectionRow : OpenClaim := { program := "ythgfmbhopppkmaa", sum := "67dbd51fe7118dcddcfaa70ae5d487f456c2d54f0650fb363d335a8a7a9d6d61", func := "loop.example/settinglayers/laws.FnExactRenameSection", spec := "fnExactRenameSection", unfollowed := true, recurses := true, apart := false }
def FnExactRenameSectionSaid : Prop := fnExactRenameSectionRow.holds Try.pinned (OpenSpec.ofChange fnExactRenameSectionSpec)

/-- ITS FALSE NEIGHBOUR: 'it returns false'. Refute it at one input. -/
def fnExactRenameSectionWrong : ChangeSpec := { name := "fnExactRenameSection", fn := fun _ => fun
  | [d1, d2, d3] => { results := [.lit (.bool false)], args := [d1, d2, d3] }
  | _ => none }
def FnExactRenameSectionWrongFalsely : Prop := fnExactRenameSectionRow.holds Try.pinned (OpenSpec.ofChange fnExactRenameSectionWrong)

/-- 'laws.FnExactAddNote': WHATEVER THE INPUT: true; the input reads as it did. -/
def fnExactAddNoteSpec : ChangeSpec := { name := "fnExactAddNote", fn := fun _ => fun
  | [d1, d2, d3, d4] => { results := [.lit (.bool true)], args := [d1, d2, d3, d4] }
  | _ => none }
def fnExactAddNoteRow : OpenClaim := { program := "ythgfmbhopppkmaa", sum := "67dbd51fe7118dcddcfaa70ae5d487f456c2d54f0650fb363d335a8a7a9d6d61", func := "loop.example/settinglayers/laws.FnExactAddNote", spec := "fnExactAddNote", unfollowed := true, recurses := true, apart := false }
def FnExactAddNoteSaid : Prop := fnExactAddNoteRow.holds Try.pinned (OpenSpec.ofChange fnExactAddNoteSpec)

/-- ITS FALSE NEIGHBOUR: 'it returns false'. Refute it at one input. -/
def fnExactAddNoteWrong : ChangeSpec := { name := "fnExactAddNote", fn := fun _ => fun
  | [d1, d2, d3, d4] => { results := [.lit (.bool false)], args := [d1, d2, d3, d4] }
  | _ => none }
def FnExactAddNoteWrongFalsely : Prop := fnExactAddNoteRow.holds Try.pinned (OpenSpec.ofChange fnExactAddNoteWrong)

/-- 'laws.FnExactLayerOf': WHATEVER THE INPUT: true; the input reads as it did. -/
def fnExactLayerOfSpec : ChangeSpec := { name := "fnExactLayerOf", fn := fun _ => fun
  | [d] => { results := [.lit (.bool true)], args := [d] }
  | _ => none }
def fnExactLayerOfRow : OpenClaim := { program := "ythgfmbhopppkmaa", sum := "67dbd51fe7118dcddcfaa70ae5d487f456c2d54f0650fb363d335a8a7a9d6d61", func := "loop.example/settinglayers/laws.FnExactLayerOf", spec := "fnExactLayerOf", unfollowed := true, recurses := true, apart := false }
def FnExactLayerOfSaid : Prop := fnExactLayerOfRow.holds Try.pinned (OpenSpec.ofChange fnExactLayerOfSpec)

/-- ITS FALSE NEIGHBOUR: 'it returns false'. Refute it at one input. -/
def fnExactLayerOfWrong : ChangeSpec := { name := "fnExactLayerOf", fn := fun _ => fun
  | [d] => { results := [.lit (.bool false)], args := [d] }
  | _ => none }
def FnExactLayerOfWrongFalsely : Prop := fnExactLayerOfRow.holds Try.pinned (OpenSpec.ofChange fnExactLayerOfWrong)

/- THE SECOND FORM. 'bulk': how many values and letters a reading holds, each counted each time it is reached (what is shared counts as often as it is met; a slice's spare places count too). A statement '..UptoSaid' is the law's where the arguments, and the package variables that the reading takes, are together of bulk at most 1048576: NARROWER than '..Said'. Prove '..Said' where nothing that the law and all that it calls make is longer than what came in: it says more and counts as full. Else prove '..UptoSaid'. A law counts once. -/
mutual
def uptoBulk {H : Type} : DataW H → Nat
  | .lit (.string bytes) => bytes.length + 1
  | .lit _ => 1
  | .nil => 1
  | .ptr d => uptoBulk d + 1
  | .slice elems spare => uptoBulkAll elems + uptoBulkAll spare + 1
  | .agg parts => uptoBulkAll parts + 1
  | .iface _ d => uptoBulk d + 1
  | .map entries => uptoBulkEntries entries + 1
  | .held _ => 1
def uptoBulkAll {H : Type} : List (DataW H) → Nat
  | [] => 0
  | d :: r => uptoBulk d + uptoBulkAll r
def uptoBulkEntries {H : Type} : List (Lit × DataW H) → Nat
  | [] => 0
  | x :: r => uptoBulkEntry x + uptoBulkEntries r
def uptoBulkEntry {H : Type} : Lit × DataW H → Nat
  | (.string bytes, d) => bytes.length + uptoBulk d + 1
  | (_, d) => uptoBulk d + 1
 end
def uptoSmall : (H : Type) → List (DataW H) → Bool := fun _ ds => decide (uptoBulkAll ds ≤ 1048576)
def OpenSpec.upto (s : _root_.Go.ChangeSpec) : _root_.Go.OpenSpec := { _root_.Go.OpenSpec.ofChange s with cond := some uptoSmall }

/-- 'laws.FnExactTidyFile', WHERE WHAT IT READS IS OF BULK AT MOST 1048576: true; the input reads as it did. -/
def fnExactTidyFileUptoRow : OpenClaim := { program := "ythgfmbhopppkmaa", sum := "67dbd51fe7118dcddcfaa70ae5d487f456c2d54f0650fb363d335a8a7a9d6d61", func := "loop.example/settinglayers/laws.FnExactTidyFile", spec := "fnExactTidyFile", unfollowed := true, recurses := true, apart := false, narrowed := true }
def FnExactTidyFileUptoSaid : Prop := fnExactTidyFileUptoRow.holds Try.pinned (OpenSpec.upto fnExactTidyFileSpec)

/-- 'laws.FnExactSameMeaning', WHERE WHAT IT READS IS OF BULK AT MOST 1048576: true; the input reads as it did. -/
def fnExactSameMeaningUptoRow : OpenClaim := { program := "ythgfmbhopppkmaa", sum := "67dbd51fe7118dcddcfaa70ae5d487f456c2d54f0650fb363d335a8a7a9d6d61", func := "loop.example/settinglayers/laws.FnExactSameMeaning", spec := "fnExactSameMeaning", unfollowed := true, recurses := true, apart := false, narrowed := true }
def FnExactSameMeaningUptoSaid : Prop := fnExactSameMeaningUptoRow.holds Try.pinned (OpenSpec.upto fnExactSameMeaningSpec)

/-- 'laws.FnExactSetValue', WHERE WHAT IT READS IS OF BULK AT MOST 1048576: true; the input reads as it did. -/
def fnExactSetValueUptoRow : OpenClaim := { program := "ythgfmbhopppkmaa", sum := "67dbd51fe7118dcddcfaa70ae5d487f456c2d54f0650fb363d335a8a7a9d6d61", func := "loop.example/settinglayers/laws.FnExactSetValue", spec := "fnExactSetValue", unfollowed := true, recurses := true, apart := false, narrowed := true }
def FnExactSetValueUptoSaid : Prop := fnExactSetValueUptoRow.holds Try.pinned (OpenSpec.upto fnExactSetValueSpec)

/-- 'laws.FnExactDropKey', WHERE WHAT IT READS IS OF BULK AT MOST 1048576: true; the input reads as it did. -/
def fnExactDropKeyUptoRow : OpenClaim := { program := "ythgfmbhopppkmaa", sum := "67dbd51fe7118dcddcfaa70ae5d487f456c2d54f0650fb363d335a8a7a9d6d61", func := "loop.example/settinglayers/laws.FnExactDropKey", spec := "fnExactDropKey", unfollowed := true, recurses := true, apart := false, narrowed := true }
def FnExactDropKeyUptoSaid : Prop := fnExactDropKeyUptoRow.holds Try.pinned (OpenSpec.upto fnExactDropKeySpec)

/-- 'laws.FnExactDropSection', WHERE WHAT IT READS IS OF BULK AT MOST 1048576: true; the input reads as it did. -/
def fnExactDropSectionUptoRow : OpenClaim := { program := "ythgfmbhopppkmaa", sum := "67dbd51fe7118dcddcfaa70ae5d487f456c2d54f0650fb363d335a8a7a9d6d61", func := "loop.example/settinglayers/laws.FnExactDropSection", spec := "fnExactDropSection", unfollowed := true, recurses := true, apart := false, narrowed := true }
def FnExactDropSectionUptoSaid : Prop := fnExactDropSectionUptoRow.holds Try.pinned (OpenSpec.upto fnExactDropSectionSpec)

/-- 'laws.FnExactRenameKey', WHERE WHAT IT READS IS OF BULK AT MOST 1048576: true; the input reads as it did. -/
def fnExactRenameKeyUptoRow : OpenClaim := { program := "ythgfmbhopppkmaa", sum := "67dbd51fe7118dcddcfaa70ae5d487f456c2d54f0650fb363d335a8a7a9d6d61", func := "loop.example/settinglayers/laws.FnExactRenameKey", spec := "fnExactRenameKey", unfollowed := true, recurses := true, apart := false, narrowed := true }
def FnExactRenameKeyUptoSaid : Prop := fnExactRenameKeyUptoRow.holds Try.pinned (OpenSpec.upto fnExactRenameKeySpec)

/-- 'laws.FnExactRenameSection', WHERE WHAT IT READS IS OF BULK AT MOST 1048576: true; the input reads as it did. -/
def fnExactRenameSectionUptoRow : OpenClaim := { program := "ythgfmbhopppkmaa", sum := "67dbd51fe7118dcddcfaa70ae5d487f456c2d54f0650fb363d335a8a7a9d6d61", func := "loop.example/settinglayers/laws.FnExactRenameSection", spec := "fnExactRenameSection", unfollowed := true, recurses := true, apart := false, narrowed := true }
def FnExactRenameSectionUptoSaid : Prop := fnExactRenameSectionUptoRow.holds Try.pinned (OpenSpec.upto fnExactRenameSectionSpec)

/-- 'laws.FnExactAddNote', WHERE WHAT IT READS IS OF BULK AT MOST 1048576: true; the input reads as it did. -/
def fnExactAddNoteUptoRow : OpenClaim := { program := "ythgfmbhopppkmaa", sum := "67dbd51fe7118dcddcfaa70ae5d487f456c2d54f0650fb363d335a8a7a9d6d61", func := "loop.example/settinglayers/laws.FnExactAddNote", spec := "fnExactAddNote", unfollowed := true, recurses := true, apart := false, narrowed := true }
def FnExactAddNoteUptoSaid : Prop := fnExactAddNoteUptoRow.holds Try.pinned (OpenSpec.upto fnExactAddNoteSpec)

/-- 'laws.FnExactLayerOf', WHERE WHAT IT READS IS OF BULK AT MOST 1048576: true; the input reads as it did. -/
def fnExactLayerOfUptoRow : OpenClaim := { program := "ythgfmbhopppkmaa", sum := "67dbd51fe7118dcddcfaa70ae5d487f456c2d54f0650fb363d335a8a7a9d6d61", func := "loop.example/settinglayers/laws.FnExactLayerOf", spec := "fnExactLayerOf", unfollowed := true, recurses := true, apart := false, narrowed := true }
def FnExactLayerOfUptoSaid : Prop := fnExactLayerOfUptoRow.holds Try.pinned (OpenSpec.upto fnExactLayerOfSpec)

end Rows
end Go.Proofs.Ythgfmbhopppkmaa
