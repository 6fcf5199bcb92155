/-
  No cell of these rows narrows 'for every input' (looked for: loops, veiled, ifaces, maps, wideKeys, modest, calm, conditions, laid).
  DERIVED. THE GIVEN ROWS OF THIS SEAT. 12 by the template 'for every input the law returns true; each argument reads behind the call as it read before'; 0 by the template 'total and deterministic' (their statements: YteifcogfnpeahaaTotals.lean).
  GIVEN WITH THE SEED: the statements are not yours to turn. If you find one false, say at which input.
  Laid BY PROGRAM, IN A SANDBOX (cutbox-rows.mjs): the forced cells as the released guide's own fill.sh prints them over the translation 807b954cc49863cb… (all of the seat's roots in one cut). By AI agents, Wed Nov 11 2026. No macro, syntax, notation, axiom, sorry.
-/
import Derived.Test.YteifcogfnpeahaaChecked
import GoSem.Claim
import GoSem.ClaimJoined
import GoSem.ClaimMapViews
import Derived.JoinedTies
import Derived.KernelRfl
namespace Go.Proofs.Yteifcogfnpeahaa
/- THE CELL 'sum', in the pinned program and in every row, IS THE sha256 OF THE DUMP (.gsa) THAT YteifcogfnpeahaaProg.lean LOADS. Nothing in Lean hashes anything: it is a label: what it is worth is what the hold of that sum in a sandbox is worth. -/
noncomputable def Try.pinned : Pinned := { name := "yteifcogfnpeahaa", sum := "807b954cc49863cbc94ccd575cd6fc10d63b3f2d5c2eb74b9fcbe228b69e161b", checked := Try.checked }
namespace Rows
def none {H : Type} : Left H := { results := [], args := [] }

/-- 'laws.FnSectionsOf': WHATEVER THE INPUT: true; the input reads as it did. -/
def fnSectionsOfSpec : ChangeSpec := { name := "fnSectionsOf", fn := fun _ => fun
  | [d] => { results := [.lit (.bool true)], args := [d] }
  | _ => none }
def fnSectionsOfRow : OpenClaim := { program := "yteifcogfnpeahaa", sum := "807b954cc49863cbc94ccd575cd6fc10d63b3f2d5c2eb74b9fcbe228b69e161b", func := "loop.example/settinglayers/laws.FnSectionsOf", spec := "fnSectionsOf", unfollowed := true, recurses := true, apart := false }
def FnSectionsOfSaid : Prop := fnSectionsOfRow.holds Try.pinned (OpenSpec.ofChange fnSectionsOfSpec)

/-- ITS FALSE NEIGHBOUR: 'it returns false'. Refute it at one input. -/
def fnSectionsOfWrong : ChangeSpec := { name := "fnSectionsOf", fn := fun _ => fun
  | [d] => { results := [.lit (.bool false)], args := [d] }
  | _ => none }
def FnSectionsOfWrongFalsely : Prop := fnSectionsOfRow.holds Try.pinned (OpenSpec.ofChange fnSectionsOfWrong)

/-- 'laws.FnKeysOf': WHATEVER THE INPUT: true; the input reads as it did. -/
def fnKeysOfSpec : ChangeSpec := { name := "fnKeysOf", fn := fun _ => fun
  | [d] => { results := [.lit (.bool true)], args := [d] }
  | _ => none }
def fnKeysOfRow : OpenClaim := { program := "yteifcogfnpeahaa", sum := "807b954cc49863cbc94ccd575cd6fc10d63b3f2d5c2eb74b9fcbe228b69e161b", func := "loop.example/settinglayers/laws.FnKeysOf", spec := "fnKeysOf", unfollowed := true, recurses := true, apart := false }
def FnKeysOfSaid : Prop := fnKeysOfRow.holds Try.pinned (OpenSpec.ofChange fnKeysOfSpec)

/-- ITS FALSE NEIGHBOUR: 'it returns false'. Refute it at one input. -/
def fnKeysOfWrong : ChangeSpec := { name := "fnKeysOf", fn := fun _ => fun
  | [d] => { results := [.lit (.bool false)], args := [d] }
  | _ => none }
def FnKeysOfWrongFalsely : Prop := fnKeysOfRow.holds Try.pinned (OpenSpec.ofChange fnKeysOfWrong)

/-- 'laws.FnGetValue': WHATEVER THE INPUT: true; the input reads as it did. -/
def fnGetValueSpec : ChangeSpec := { name := "fnGetValue", fn := fun _ => fun
  | [d] => { results := [.lit (.bool true)], args := [d] }
  | _ => none }
def fnGetValueRow : OpenClaim := { program := "yteifcogfnpeahaa", sum := "807b954cc49863cbc94ccd575cd6fc10d63b3f2d5c2eb74b9fcbe228b69e161b", func := "loop.example/settinglayers/laws.FnGetValue", spec := "fnGetValue", unfollowed := true, recurses := true, apart := false }
def FnGetValueSaid : Prop := fnGetValueRow.holds Try.pinned (OpenSpec.ofChange fnGetValueSpec)

/-- ITS FALSE NEIGHBOUR: 'it returns false'. Refute it at one input. -/
def fnGetValueWrong : ChangeSpec := { name := "fnGetValue", fn := fun _ => fun
  | [d] => { results := [.lit (.bool false)], args := [d] }
  | _ => none }
def FnGetValueWrongFalsely : Prop := fnGetValueRow.holds Try.pinned (OpenSpec.ofChange fnGetValueWrong)

/-- 'laws.FnRenameKey': WHATEVER THE INPUT: true; the input reads as it did. -/
def fnRenameKeySpec : ChangeSpec := { name := "fnRenameKey", fn := fun _ => fun
  | [d] => { results := [.lit (.bool true)], args := [d] }
  | _ => none }
def fnRenameKeyRow : OpenClaim := { program := "yteifcogfnpeahaa", sum := "807b954cc49863cbc94ccd575cd6fc10d63b3f2d5c2eb74b9fcbe228b69e161b", func := "loop.example/settinglayers/laws.FnRenameKey", spec := "fnRenameKey", unfollowed := true, recurses := true, apart := false }
def FnRenameKeySaid : Prop := fnRenameKeyRow.holds Try.pinned (OpenSpec.ofChange fnRenameKeySpec)

/-- ITS FALSE NEIGHBOUR: 'it returns false'. Refute it at one input. -/
def fnRenameKeyWrong : ChangeSpec := { name := "fnRenameKey", fn := fun _ => fun
  | [d] => { results := [.lit (.bool false)], args := [d] }
  | _ => none }
def FnRenameKeyWrongFalsely : Prop := fnRenameKeyRow.holds Try.pinned (OpenSpec.ofChange fnRenameKeyWrong)

/-- 'laws.FnRenameSection': WHATEVER THE INPUT: true; the input reads as it did. -/
def fnRenameSectionSpec : ChangeSpec := { name := "fnRenameSection", fn := fun _ => fun
  | [d] => { results := [.lit (.bool true)], args := [d] }
  | _ => none }
def fnRenameSectionRow : OpenClaim := { program := "yteifcogfnpeahaa", sum := "807b954cc49863cbc94ccd575cd6fc10d63b3f2d5c2eb74b9fcbe228b69e161b", func := "loop.example/settinglayers/laws.FnRenameSection", spec := "fnRenameSection", unfollowed := true, recurses := true, apart := false }
def FnRenameSectionSaid : Prop := fnRenameSectionRow.holds Try.pinned (OpenSpec.ofChange fnRenameSectionSpec)

/-- ITS FALSE NEIGHBOUR: 'it returns false'. Refute it at one input. -/
def fnRenameSectionWrong : ChangeSpec := { name := "fnRenameSection", fn := fun _ => fun
  | [d] => { results := [.lit (.bool false)], args := [d] }
  | _ => none }
def FnRenameSectionWrongFalsely : Prop := fnRenameSectionRow.holds Try.pinned (OpenSpec.ofChange fnRenameSectionWrong)

/-- 'laws.FnWhereIs': WHATEVER THE INPUT: true; the input reads as it did. -/
def fnWhereIsSpec : ChangeSpec := { name := "fnWhereIs", fn := fun _ => fun
  | [d] => { results := [.lit (.bool true)], args := [d] }
  | _ => none }
def fnWhereIsRow : OpenClaim := { program := "yteifcogfnpeahaa", sum := "807b954cc49863cbc94ccd575cd6fc10d63b3f2d5c2eb74b9fcbe228b69e161b", func := "loop.example/settinglayers/laws.FnWhereIs", spec := "fnWhereIs", unfollowed := true, recurses := true, apart := false }
def FnWhereIsSaid : Prop := fnWhereIsRow.holds Try.pinned (OpenSpec.ofChange fnWhereIsSpec)

/-- ITS FALSE NEIGHBOUR: 'it returns false'. Refute it at one input. -/
def fnWhereIsWrong : ChangeSpec := { name := "fnWhereIs", fn := fun _ => fun
  | [d] => { results := [.lit (.bool false)], args := [d] }
  | _ => none }
def FnWhereIsWrongFalsely : Prop := fnWhereIsRow.holds Try.pinned (OpenSpec.ofChange fnWhereIsWrong)

/-- 'laws.FnNotesOf': WHATEVER THE INPUT: true; the input reads as it did. -/
def fnNotesOfSpec : ChangeSpec := { name := "fnNotesOf", fn := fun _ => fun
  | [d] => { results := [.lit (.bool true)], args := [d] }
  | _ => none }
def fnNotesOfRow : OpenClaim := { program := "yteifcogfnpeahaa", sum := "807b954cc49863cbc94ccd575cd6fc10d63b3f2d5c2eb74b9fcbe228b69e161b", func := "loop.example/settinglayers/laws.FnNotesOf", spec := "fnNotesOf", unfollowed := true, recurses := true, apart := false }
def FnNotesOfSaid : Prop := fnNotesOfRow.holds Try.pinned (OpenSpec.ofChange fnNotesOfSpec)

/-- ITS FALSE NEIGHBOUR: 'it returns false'. Refute it at one input. -/
def fnNotesOfWrong : ChangeSpec := { name := "fnNotesOf", fn := fun _ => fun
  | [d] => { results := [.lit (.bool false)], args := [d] }
  | _ => none }
def FnNotesOfWrongFalsely : Prop := fnNotesOfRow.holds Try.pinned (OpenSpec.ofChange fnNotesOfWrong)

/-- 'laws.FnExactSectionsOf': WHATEVER THE INPUT: true; the input reads as it did. -/
def fnExactSectionsOfSpec : ChangeSpec := { name := "fnExactSectionsOf", fn := fun _ => fun
  | [d] => { results := [.lit (.bool true)], args := [d] }
  | _ => none }
def fnExactSectionsOfRow : OpenClaim := { program := "yteifcogfnpeahaa", sum := "807b954cc49863cbc94ccd575cd6fc10d63b3f2d5c2eb74b9fcbe228b69e161b", func := "loop.example/settinglayers/laws.FnExactSectionsOf", spec := "fnExactSectionsOf", unfollowed := true, recurses := true, apart := false }
def FnExactSectionsOfSaid : Prop := fnExactSectionsOfRow.holds Try.pinned (OpenSpec.ofChange fnExactSectionsOfSpec)

/-- ITS FALSE NEIGHBOUR: 'it returns false'. Refute it at one input. -/
def fnExactSectionsOfWrong : ChangeSpec := { name := "fnExactSectionsOf", fn := fun _ => fun
  | [d] => { results := [.lit (.bool false)], args := [d] }
  | _ => none }
def FnExactSectionsOfWrongFalsely : Prop := fnExactSectionsOfRow.holds Try.pinned (OpenSpec.ofChange fnExactSectionsOfWrong)

/-- 'laws.FnExactKeysOf': WHATEVER THE INPUT: true; the input reads as it did. -/
def fnExactKeysOfSpec : ChangeSpec := { name := "fnExactKeysOf", fn := fun _ => fun
  | [d1, d2] => { results := [.lit (.bool true)], args := [d1, d2] }
  | _ => none }
def fnExactKeysOfRow : OpenClaim := { program := "yteifcogfnpeahaa", sum := "807b954cc49863cbc94ccd575cd6fc10d63b3f2d5c2eb74b9fcbe228b69e161b", func := "loop.example/settinglayers/laws.FnExactKeysOf", spec := "fnExactKeysOf", unfollowed := true, recurses := true, apart := false }
def FnExactKeysOfSaid : Prop := fnExactKeysOfRow.holds Try.pinned (OpenSpec.ofChange fnExactKeysOfSpec)

/-- ITS FALSE NEIGHBOUR: 'it returns false'. Refute it at one input. -/
def fnExactKeysOfWrong : ChangeSpec := { name := "fnExactKeysOf", fn := fun _ => fun
  | [d1, d2] => { results := [.lit (.bool false)], args := [d1, d2] }
  | _ => none }
def FnExactKeysOfWrongFalsely : Prop := fnExactKeysOfRow.holds Try.pinned (OpenSpec.ofChange fnExactKeysOfWrong)

/-- 'laws.FnExactTidyFile': WHATEVER THE INPUT: true; the input reads as it did. -/
def fnExactTidyFileSpec : ChangeSpec := { name := "fnExactTidyFile", fn := fun _ => fun
  | [d] => { results := [.lit (.bool true)], args := [d] }
  | _ => none }
def fnExactTidyFileRow : OpenClaim := { program := "yteifcogfnpeahaa", sum := "807b954cc49863cbc94ccd575cd6fc10d63b3f2d5c2eb74b9fcbe228b69e161b", func := "loop.example/settinglayers/laws.FnExactTidyFile", spec := "fnExactTidyFile", unfollowed := true, recurses := true, apart := false }
def FnExactTidyFileSaid : Prop := fnExactTidyFileRow.holds Try.pinned (OpenSpec.ofChange fnExactTidyFileSpec)

/-- ITS FALSE NEIGHBOUR: 'it returns false'. Refute it at one input. -/
def fnExactTidyFileWrong : ChangeSpec := { name := "fnExactTidyFile", fn := fun _ => fun
  | [d] => { results := [.lit (.bool false)], args := [d] }
  | _ => none }
def FnExactTidyFileWrongFalsely : Prop := fnExactTidyFileRow.holds Try.pinned (OpenSpec.ofChange fnExactTidyFileWrong)

/-- 'laws.FnExactSameMeaning': WHATEVER THE INPUT: true; the input reads as it did. -/
def fnExactSameMeaningSpec : ChangeSpec := { name := "fnExactSameMeaning", fn := fun _ => fun
  | [d1, d2] => { results := [.lit (.bool true)], args := [d1, d2] }
  | _ => none }
def fnExactSameMeaningRow : OpenClaim := { program := "yteifcogfnpeahaa", sum := "807b954cc49863cbc94ccd575cd6fc10d63b3f2d5c2eb74b9fcbe228b69e161b", func := "loop.example/settinglayers/laws.FnExactSameMeaning", spec := "fnExactSameMeaning", unfollowed := true, recurses := true, apart := false }
def FnExactSameMeaningSaid : Prop := fnExactSameMeaningRow.holds Try.pinned (OpenSpec.ofChange fnExactSameMeaningSpec)

/-- ITS FALSE NEIGHBOUR: 'it returns false'. Refute it at one input. -/
def fnExactSameMeaningWrong : ChangeSpec := { name := "fnExactSameMeaning", fn := fun _ => fun
  | [d1, d2] => { results := [.lit (.bool false)], args := [d1, d2] }
  | _ => none }
def FnExactSameMeaningWrongFalsely : Prop := fnExactSameMeaningRow.holds Try.pinned (OpenSpec.ofChange fnExactSameMeaningWrong)

/-- 'laws.FnExactLayerOf': WHATEVER THE INPUT: true; the input reads as it did. -/
def fnExactLayerOfSpec : ChangeSpec := { name := "fnExactLayerOf", fn := fun _ => fun
  | [d] => { results := [.lit (.bool true)], args := [d] }
  | _ => none }
def fnExactLayerOfRow : OpenClaim := { program := "yteifcogfnpeahaa", sum := "807b954cc49863cbc94ccd575cd6fc10d63b3f2d5c2eb74b9fcbe228b69e161b", func := "loop.example/settinglayers/laws.FnExactLayerOf", spec := "fnExactLayerOf", unfollowed := true, recurses := true, apart := false }
def FnExactLayerOfSaid : Prop := fnExactLayerOfRow.holds Try.pinned (OpenSpec.ofChange fnExactLayerOfSpec)

/-- ITS FALSE NEIGHBOUR: 'it returns false'. Refute it at one input. -/
def fnExactLayerOfWrong : ChangeSpec := { name := "fnExactLayerOf", fn := fun _ => fun
  | [d] => { results := [.lit (.bool false)], args := [d] }
  | _ => none }
def FnExactLayerOfWrongFalsely : Prop := fnExactLayerOfRow.holds Try.pinned (OpenSpec.ofChange fnExactLayerOfWrong)

/- THE SECOND FORM. 'bulk': how many values and letters a reading holds, each counted each time it is reached (what is shared counts as often as it is met; a slice's spare places count too). A statement '..UptoSaid' is the law's where the arguments, and the package variables that the reading takes, are together of bulk at most 1048576: NARROWER than '..Said'. Prove '..Said' where nothing that the law and all that it calls make is longer than what came in: it says more and counts as full. Else prove '..UptoSaid'. A law counts once. -/
mutual
def uptoBulk {H : Type} : DataW H → Nat
  | .lit (.string bytes) => bytes.length + 1
  | .lit _ => 1
  | .nil => 1
  | .ptr d => uptoBulk d + 1
  | .slice elems spare => uptoBulkAll elems + uptoBulkAll spare + 1
  | .agg parts => uptoBulkAll parts + 1
  | .iface _ d => uptoBulk d + 1
  | .map entries => uptoBulkEntries entries + 1
  | .held _ => 1
def uptoBulkAll {H : Type} : List (DataW H) → Nat
  | [] => 0
  | d :: r => uptoBulk d + uptoBulkAll r
def uptoBulkEntries {H : Type} : List (Lit × DataW H) → Nat
  | [] => 0
  | x :: r => uptoBulkEntry x + uptoBulkEntries r
def uptoBulkEntry {H : Type} : Lit × DataW H → Nat
  | (.string bytes, d) => bytes.length + uptoBulk d + 1
  | (_, d) => uptoBulk d + 1
 end
def uptoSmall : (H : Type) → List (DataW H) → Bool := fun _ ds => decide (uptoBulkAll ds ≤ 1048576)
def OpenSpec.upto (s : _root_.Go.ChangeSpec) : _root_.Go.OpenSpec := { _root_.Go.OpenSpec.ofChange s with cond := some uptoSmall }

/-- 'laws.FnSectionsOf', WHERE WHAT IT READS IS OF BULK AT MOST 1048576: true; the input reads as it did. -/
def fnSectionsOfUptoRow : OpenClaim := { program := "yteifcogfnpeahaa", sum := "807b954cc49863cbc94ccd575cd6fc10d63b3f2d5c2eb74b9fcbe228b69e161b", func := "loop.example/settinglayers/laws.FnSectionsOf", spec := "fnSectionsOf", unfollowed := true, recurses := true, apart := false, narrowed := true }
def FnSectionsOfUptoSaid : Prop := fnSectionsOfUptoRow.holds Try.pinned (OpenSpec.upto fnSectionsOfSpec)

/-- 'laws.FnKeysOf', WHERE WHAT IT READS IS OF BULK AT MOST 1048576: true; the input reads as it did. -/
def fnKeysOfUptoRow : OpenClaim := { program := "yteifcogfnpeahaa", sum := "807b954cc49863cbc94ccd575cd6fc10d63b3f2d5c2eb74b9fcbe228b69e161b", func := "loop.example/settinglayers/laws.FnKeysOf", spec := "fnKeysOf", unfollowed := true, recurses := true, apart := false, narrowed := true }
def FnKeysOfUptoSaid : Prop := fnKeysOfUptoRow.holds Try.pinned (OpenSpec.upto fnKeysOfSpec)

/-- 'laws.FnGetValue', WHERE WHAT IT READS IS OF BULK AT MOST 1048576: true; the input reads as it did. -/
def fnGetValueUptoRow : OpenClaim := { program := "yteifcogfnpeahaa", sum := "807b954cc49863cbc94ccd575cd6fc10d63b3f2d5c2eb74b9fcbe228b69e161b", func := "loop.example/settinglayers/laws.FnGetValue", spec := "fnGetValue", unfollowed := true, recurses := true, apart := false, narrowed := true }
def FnGetValueUptoSaid : Prop := fnGetValueUptoRow.holds Try.pinned (OpenSpec.upto fnGetValueSpec)

/-- 'laws.FnRenameKey', WHERE WHAT IT READS IS OF BULK AT MOST 1048576: true; the input reads as it did. -/
def fnRenameKeyUptoRow : OpenClaim := { program := "yteifcogfnpeahaa", sum := "807b954cc49863cbc94ccd575cd6fc10d63b3f2d5c2eb74b9fcbe228b69e161b", func := "loop.example/settinglayers/laws.FnRenameKey", spec := "fnRenameKey", unfollowed := true, recurses := true, apart := false, narrowed := true }
def FnRenameKeyUptoSaid : Prop := fnRenameKeyUptoRow.holds Try.pinned (OpenSpec.upto fnRenameKeySpec)

/-- 'laws.FnRenameSection', WHERE WHAT IT READS IS OF BULK AT MOST 1048576: true; the input reads as it did. -/
def fnRenameSectionUptoRow : OpenClaim := { program := "yteifcogfnpeahaa", sum := "807b954cc49863cbc94ccd575cd6fc10d63b3f2d5c2eb74b9fcbe228b69e161b", func := "loop.example/settinglayers/laws.FnRenameSection", spec := "fnRenameSection", unfollowed := true, recurses := true, apart := false, narrowed := true }
def FnRenameSectionUptoSaid : Prop := fnRenameSectionUptoRow.holds Try.pinned (OpenSpec.upto fnRenameSectionSpec)

/-- 'laws.FnWhereIs', WHERE WHAT IT READS IS OF BULK AT MOST 1048576: true; the input reads as it did. -/
def fnWhereIsUptoRow : OpenClaim := { program := "yteifcogfnpeahaa", sum := "807b954cc49863cbc94ccd575cd6fc10d63b3f2d5c2eb74b9fcbe228b69e161b", func := "loop.example/settinglayers/laws.FnWhereIs", spec := "fnWhereIs", unfollowed := true, recurses := true, apart := false, narrowed := true }
def FnWhereIsUptoSaid : Prop := fnWhereIsUptoRow.holds Try.pinned (OpenSpec.upto fnWhereIsSpec)

/-- 'laws.FnNotesOf', WHERE WHAT IT READS IS OF BULK AT MOST 1048576: true; the input reads as it did. -/
def fnNotesOfUptoRow : OpenClaim := { program := "yteifcogfnpeahaa", sum := "807b954cc49863cbc94ccd575cd6fc10d63b3f2d5c2eb74b9fcbe228b69e161b", func := "loop.example/settinglayers/laws.FnNotesOf", spec := "fnNotesOf", unfollowed := true, recurses := true, apart := false, narrowed := true }
def FnNotesOfUptoSaid : Prop := fnNotesOfUptoRow.holds Try.pinned (OpenSpec.upto fnNotesOfSpec)

/-- 'laws.FnExactSectionsOf', WHERE WHAT IT READS IS OF BULK AT MOST 1048576: true; the input reads as it did. -/
def fnExactSectionsOfUptoRow : OpenClaim := { program := "yteifcogfnpeahaa", sum := "807b954cc49863cbc94ccd575cd6fc10d63b3f2d5c2eb74b9fcbe228b69e161b", func := "loop.example/settinglayers/laws.FnExactSectionsOf", spec := "fnExactSectionsOf", unfollowed := true, recurses := true, apart := false, narrowed := true }
def FnExactSectionsOfUptoSaid : Prop := fnExactSectionsOfUptoRow.holds Try.pinned (OpenSpec.upto fnExactSectionsOfSpec)

/-- 'laws.FnExactKeysOf', WHERE WHAT IT READS IS OF BULK AT MOST 1048576: true; the input reads as it did. -/
def fnExactKeysOfUptoRow : OpenClaim := { program := "yteifcogfnpeahaa", sum := "807b954cc49863cbc94ccd575cd6fc10d63b3f2d5c2eb74b9fcbe228b69e161b", func := "loop.example/settinglayers/laws.FnExactKeysOf", spec := "fnExactKeysOf", unfollowed := true, recurses := true, apart := false, narrowed := true }
def FnExactKeysOfUptoSaid : Prop := fnExactKeysOfUptoRow.holds Try.pinned (OpenSpec.upto fnExactKeysOfSpec)

/-- 'laws.FnExactTidyFile', WHERE WHAT IT READS IS OF BULK AT MOST 1048576: true; the input reads as it did. -/
def fnExactTidyFileUptoRow : OpenClaim := { program := "yteifcogfnpeahaa", sum := "807b954cc49863cbc94ccd575cd6fc10d63b3f2d5c2eb74b9fcbe228b69e161b", func := "loop.example/settinglayers/laws.FnExactTidyFile", spec := "fnExactTidyFile", unfollowed := true, recurses := true, apart := false, narrowed := true }
def FnExactTidyFileUptoSaid : Prop := fnExactTidyFileUptoRow.holds Try.pinned (OpenSpec.upto fnExactTidyFileSpec)

/-- 'laws.FnExactSameMeaning', WHERE WHAT IT READS IS OF BULK AT MOST 1048576: true; the input reads as it did. -/
def fnExactSameMeaningUptoRow : OpenClaim := { program := "yteifcogfnpeahaa", sum := "807b954cc49863cbc94ccd575cd6fc10d63b3f2d5c2eb74b9fcbe228b69e161b", func := "loop.example/settinglayers/laws.FnExactSameMeaning", spec := "fnExactSameMeaning", unfollowed := true, recurses := true, apart := false, narrowed := true }
def FnExactSameMeaningUptoSaid : Prop := fnExactSameMeaningUptoRow.holds Try.pinned (OpenSpec.upto fnExactSameMeaningSpec)

/-- 'laws.FnExactLayerOf', WHERE WHAT IT READS IS OF BULK AT MOST 1048576: true; the input reads as it did. -/
def fnExactLayerOfUptoRow : OpenClaim := { program := "yteifcogfnpeahaa", sum := "807b954cc49863cbc94ccd575cd6fc10d63b3f2d5c2eb74b9fcbe228b69e161b", func := "loop.example/settinglayers/laws.FnExactLayerOf", spec := "fnExactLayerOf", unfollowed := true, recurses := true, apart := false, narrowed := true }
def FnExactLayerOfUptoSaid : Prop := fnExactLayerOfUptoRow.holds Try.pinned (OpenSpec.upto fnExactLayerOfSpec)

end Rows
end Go.Proofs.Yteifcogfnpeahaa
