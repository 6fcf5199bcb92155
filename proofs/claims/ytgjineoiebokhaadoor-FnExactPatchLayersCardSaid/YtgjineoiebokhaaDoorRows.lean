/-
  NARROWER THAN 'FOR EVERY INPUT', by the rows' own cells (each row's printed sentence says how): FnValidLayer: laid · FnLayerSections: laid · FnSectionOf: laid · FnSameLayers: laid · FnExactPutEntry: laid · FnExactMergeLayers: laid · FnExactPatchLayers: laid.
  DERIVED. THE GIVEN ROWS OF THIS SEAT. 7 by the template 'for every input the law returns true; each argument reads behind the call as it read before'; 0 by the template 'total and deterministic' (their statements: YtgjineoiebokhaaDoorTotals.lean).
  GIVEN WITH THE SEED: the statements are not yours to turn. If you find one false, say at which input.
  Laid BY PROGRAM, IN A SANDBOX (cutbox-rows.mjs): the forced cells as the released guide's own fill.sh prints them over the translation d333174c5d17cdc2… (all of the seat's roots in one cut). By AI agents, Wed Nov 11 2026. No macro, syntax, notation, axiom, sorry.
-/
import Derived.Test.YtgjineoiebokhaaDoorChecked
import GoSem.PinnedTables
import GoSem.Claim
import GoSem.ClaimJoined
import GoSem.ClaimMapViews
import Derived.JoinedTies
import Derived.KernelRfl
namespace Go.Proofs.YtgjineoiebokhaaDoor
/- THE CELL 'sum', in the pinned program and in every row, IS THE sha256 OF THE DUMP (.gsa) THAT YtgjineoiebokhaaDoorProg.lean LOADS. Nothing in Lean hashes anything: it is a label: what it is worth is what the hold of that sum in a sandbox is worth. -/
noncomputable def Tryd.pinned : Pinned := { name := "ytgjineoiebokhaadoor", sum := "d333174c5d17cdc2d35738a4b3f6d6ec7c1cc223abc1c42ba96d2fe5d639678a", checked := Tryd.checked }
namespace Rows
def none {H : Type} : Left H := { results := [], args := [] }

/- WHAT THE LISTED PACKAGE-LEVEL VARIABLES READ AS WHEN THE CALL BEGINS. Each datum BY PROGRAM (the guide's laid-datum.mjs) off the statement by which the dump's own 'gosem.cut.vars' lays the variable. In a bare row this is a premise. The card (YtgjineoiebokhaaDoorCards.lean) ties it to the program's text. -/
def laid_unicode_utf8_acceptRanges {H : Type} : DataW H := .agg [.agg [.lit (.int .u8 128), .lit (.int .u8 191)], .agg [.lit (.int .u8 160), .lit (.int .u8 191)], .agg [.lit (.int .u8 128), .lit (.int .u8 159)], .agg [.lit (.int .u8 144), .lit (.int .u8 191)], .agg [.lit (.int .u8 128), .lit (.int .u8 143)], .agg [.lit (.int .u8 0), .lit (.int .u8 0)], .agg [.lit (.int .u8 0), .lit (.int .u8 0)], .agg [.lit (.int .u8 0), .lit (.int .u8 0)], .agg [.lit (.int .u8 0), .lit (.int .u8 0)], .agg [.lit (.int .u8 0), .lit (.int .u8 0)], .agg [.lit (.int .u8 0), .lit (.int .u8 0)], .agg [.lit (.int .u8 0), .lit (.int .u8 0)], .agg [.lit (.int .u8 0), .lit (.int .u8 0)], .agg [.lit (.int .u8 0), .lit (.int .u8 0)], .agg [.lit (.int .u8 0), .lit (.int .u8 0)], .agg [.lit (.int .u8 0), .lit (.int .u8 0)]]
/-- One of Go's own tables, pinned by name: the form's constant. -/
def laid_unicode_utf8_first : DataW Unit := Go.Pinned.utf8First

/-- 'laws.FnValidLayer': WHATEVER THE INPUT: true; the input reads as it did. -/
def fnValidLayerSpec : ChangeSpec := { name := "fnValidLayer", fn := fun _ => fun
  | [d] => { results := [.lit (.bool true)], args := [d] }
  | _ => none }
def fnValidLayerRow : OpenClaim := { program := "ytgjineoiebokhaadoor", sum := "d333174c5d17cdc2d35738a4b3f6d6ec7c1cc223abc1c42ba96d2fe5d639678a", func := "loop.example/settinglayers/laws.FnValidLayer", spec := "fnValidLayer", inPlace := ["internal/bytealg.IndexByteString", "internal/bytealg.IndexString"], unfollowed := true, recurses := true, named := ["unicode/utf8.first", "unicode/utf8.acceptRanges", "internal/bytealg.MaxLen"], plainKeys := false, apart := false, laid := [("unicode/utf8.acceptRanges", laid_unicode_utf8_acceptRanges), ("unicode/utf8.first", laid_unicode_utf8_first)] }
def FnValidLayerSaid : Prop := fnValidLayerRow.holds Tryd.pinned (OpenSpec.ofChange fnValidLayerSpec)

/-- ITS FALSE NEIGHBOUR: 'it returns false'. Refute it at one input. -/
def fnValidLayerWrong : ChangeSpec := { name := "fnValidLayer", fn := fun _ => fun
  | [d] => { results := [.lit (.bool false)], args := [d] }
  | _ => none }
def FnValidLayerWrongFalsely : Prop := fnValidLayerRow.holds Tryd.pinned (OpenSpec.ofChange fnValidLayerWrong)

/-- 'laws.FnLayerSections': WHATEVER THE INPUT: true; the input reads as it did. -/
def fnLayerSectionsSpec : ChangeSpec := { name := "fnLayerSections", fn := fun _ => fun
  | [d] => { results := [.lit (.bool true)], args := [d] }
  | _ => none }
def fnLayerSectionsRow : OpenClaim := { program := "ytgjineoiebokhaadoor", sum := "d333174c5d17cdc2d35738a4b3f6d6ec7c1cc223abc1c42ba96d2fe5d639678a", func := "loop.example/settinglayers/laws.FnLayerSections", spec := "fnLayerSections", inPlace := ["internal/bytealg.IndexByteString", "internal/bytealg.IndexString"], unfollowed := true, recurses := true, named := ["unicode/utf8.first", "unicode/utf8.acceptRanges", "internal/bytealg.MaxLen"], plainKeys := false, apart := false, laid := [("unicode/utf8.acceptRanges", laid_unicode_utf8_acceptRanges), ("unicode/utf8.first", laid_unicode_utf8_first)] }
def FnLayerSectionsSaid : Prop := fnLayerSectionsRow.holds Tryd.pinned (OpenSpec.ofChange fnLayerSectionsSpec)

/-- ITS FALSE NEIGHBOUR: 'it returns false'. Refute it at one input. -/
def fnLayerSectionsWrong : ChangeSpec := { name := "fnLayerSections", fn := fun _ => fun
  | [d] => { results := [.lit (.bool false)], args := [d] }
  | _ => none }
def FnLayerSectionsWrongFalsely : Prop := fnLayerSectionsRow.holds Tryd.pinned (OpenSpec.ofChange fnLayerSectionsWrong)

/-- 'laws.FnSectionOf': WHATEVER THE INPUT: true; the input reads as it did. -/
def fnSectionOfSpec : ChangeSpec := { name := "fnSectionOf", fn := fun _ => fun
  | [d] => { results := [.lit (.bool true)], args := [d] }
  | _ => none }
def fnSectionOfRow : OpenClaim := { program := "ytgjineoiebokhaadoor", sum := "d333174c5d17cdc2d35738a4b3f6d6ec7c1cc223abc1c42ba96d2fe5d639678a", func := "loop.example/settinglayers/laws.FnSectionOf", spec := "fnSectionOf", inPlace := ["internal/bytealg.IndexByteString", "internal/bytealg.IndexString"], unfollowed := true, recurses := true, named := ["unicode/utf8.first", "unicode/utf8.acceptRanges", "internal/bytealg.MaxLen"], plainKeys := false, apart := false, laid := [("unicode/utf8.acceptRanges", laid_unicode_utf8_acceptRanges), ("unicode/utf8.first", laid_unicode_utf8_first)] }
def FnSectionOfSaid : Prop := fnSectionOfRow.holds Tryd.pinned (OpenSpec.ofChange fnSectionOfSpec)

/-- ITS FALSE NEIGHBOUR: 'it returns false'. Refute it at one input. -/
def fnSectionOfWrong : ChangeSpec := { name := "fnSectionOf", fn := fun _ => fun
  | [d] => { results := [.lit (.bool false)], args := [d] }
  | _ => none }
def FnSectionOfWrongFalsely : Prop := fnSectionOfRow.holds Tryd.pinned (OpenSpec.ofChange fnSectionOfWrong)

/-- 'laws.FnSameLayers': WHATEVER THE INPUT: true; the input reads as it did. -/
def fnSameLayersSpec : ChangeSpec := { name := "fnSameLayers", fn := fun _ => fun
  | [d] => { results := [.lit (.bool true)], args := [d] }
  | _ => none }
def fnSameLayersRow : OpenClaim := { program := "ytgjineoiebokhaadoor", sum := "d333174c5d17cdc2d35738a4b3f6d6ec7c1cc223abc1c42ba96d2fe5d639678a", func := "loop.example/settinglayers/laws.FnSameLayers", spec := "fnSameLayers", inPlace := ["internal/bytealg.IndexByteString", "internal/bytealg.IndexString"], unfollowed := true, recurses := true, named := ["unicode/utf8.first", "unicode/utf8.acceptRanges", "internal/bytealg.MaxLen"], plainKeys := false, apart := false, laid := [("unicode/utf8.acceptRanges", laid_unicode_utf8_acceptRanges), ("unicode/utf8.first", laid_unicode_utf8_first)] }
def FnSameLayersSaid : Prop := fnSameLayersRow.holds Tryd.pinned (OpenSpec.ofChange fnSameLayersSpec)

/-- ITS FALSE NEIGHBOUR: 'it returns false'. Refute it at one input. -/
def fnSameLayersWrong : ChangeSpec := { name := "fnSameLayers", fn := fun _ => fun
  | [d] => { results := [.lit (.bool false)], args := [d] }
  | _ => none }
def FnSameLayersWrongFalsely : Prop := fnSameLayersRow.holds Tryd.pinned (OpenSpec.ofChange fnSameLayersWrong)

/-- 'laws.FnExactPutEntry': WHATEVER THE INPUT: true; the input reads as it did. -/
def fnExactPutEntrySpec : ChangeSpec := { name := "fnExactPutEntry", fn := fun _ => fun
  | [d1, d2] => { results := [.lit (.bool true)], args := [d1, d2] }
  | _ => none }
def fnExactPutEntryRow : OpenClaim := { program := "ytgjineoiebokhaadoor", sum := "d333174c5d17cdc2d35738a4b3f6d6ec7c1cc223abc1c42ba96d2fe5d639678a", func := "loop.example/settinglayers/laws.FnExactPutEntry", spec := "fnExactPutEntry", inPlace := ["internal/bytealg.IndexByteString", "internal/bytealg.IndexString"], named := ["unicode/utf8.first", "unicode/utf8.acceptRanges", "internal/bytealg.MaxLen"], plainKeys := false, apart := false, laid := [("unicode/utf8.acceptRanges", laid_unicode_utf8_acceptRanges), ("unicode/utf8.first", laid_unicode_utf8_first)] }
def FnExactPutEntrySaid : Prop := fnExactPutEntryRow.holds Tryd.pinned (OpenSpec.ofChange fnExactPutEntrySpec)

/-- ITS FALSE NEIGHBOUR: 'it returns false'. Refute it at one input. -/
def fnExactPutEntryWrong : ChangeSpec := { name := "fnExactPutEntry", fn := fun _ => fun
  | [d1, d2] => { results := [.lit (.bool false)], args := [d1, d2] }
  | _ => none }
def FnExactPutEntryWrongFalsely : Prop := fnExactPutEntryRow.holds Tryd.pinned (OpenSpec.ofChange fnExactPutEntryWrong)

/-- 'laws.FnExactMergeLayers': WHATEVER THE INPUT: true; the input reads as it did. -/
def fnExactMergeLayersSpec : ChangeSpec := { name := "fnExactMergeLayers", fn := fun _ => fun
  | [d1, d2] => { results := [.lit (.bool true)], args := [d1, d2] }
  | _ => none }
def fnExactMergeLayersRow : OpenClaim := { program := "ytgjineoiebokhaadoor", sum := "d333174c5d17cdc2d35738a4b3f6d6ec7c1cc223abc1c42ba96d2fe5d639678a", func := "loop.example/settinglayers/laws.FnExactMergeLayers", spec := "fnExactMergeLayers", inPlace := ["internal/bytealg.IndexByteString", "internal/bytealg.IndexString"], named := ["unicode/utf8.first", "unicode/utf8.acceptRanges", "internal/bytealg.MaxLen"], plainKeys := false, apart := false, laid := [("unicode/utf8.acceptRanges", laid_unicode_utf8_acceptRanges), ("unicode/utf8.first", laid_unicode_utf8_first)] }
def FnExactMergeLayersSaid : Prop := fnExactMergeLayersRow.holds Tryd.pinned (OpenSpec.ofChange fnExactMergeLayersSpec)

/-- ITS FALSE NEIGHBOUR: 'it returns false'. Refute it at one input. -/
def fnExactMergeLayersWrong : ChangeSpec := { name := "fnExactMergeLayers", fn := fun _ => fun
  | [d1, d2] => { results := [.lit (.bool false)], args := [d1, d2] }
  | _ => none }
def FnExactMergeLayersWrongFalsely : Prop := fnExactMergeLayersRow.holds Tryd.pinned (OpenSpec.ofChange fnExactMergeLayersWrong)

/-- 'laws.FnExactPatchLayers': WHATEVER THE INPUT: true; the input reads as it did. -/
def fnExactPatchLayersSpec : ChangeSpec := { name := "fnExactPatchLayers", fn := fun _ => fun
  | [d1, d2] => { results := [.lit (.bool true)], args := [d1, d2] }
  | _ => none }
def fnExactPatchLayersRow : OpenClaim := { program := "ytgjineoiebokhaadoor", sum := "d333174c5d17cdc2d35738a4b3f6d6ec7c1cc223abc1c42ba96d2fe5d639678a", func := "loop.example/settinglayers/laws.FnExactPatchLayers", spec := "fnExactPatchLayers", inPlace := ["internal/bytealg.IndexByteString", "internal/bytealg.IndexString"], named := ["unicode/utf8.first", "unicode/utf8.acceptRanges", "internal/bytealg.MaxLen"], plainKeys := false, apart := false, laid := [("unicode/utf8.acceptRanges", laid_unicode_utf8_acceptRanges), ("unicode/utf8.first", laid_unicode_utf8_first)] }
def FnExactPatchLayersSaid : Prop := fnExactPatchLayersRow.holds Tryd.pinned (OpenSpec.ofChange fnExactPatchLayersSpec)

/-- ITS FALSE NEIGHBOUR: 'it returns false'. Refute it at one input. -/
def fnExactPatchLayersWrong : ChangeSpec := { name := "fnExactPatchLayers", fn := fun _ => fun
  | [d1, d2] => { results := [.lit (.bool false)], args := [d1, d2] }
  | _ => none }
def FnExactPatchLayersWrongFalsely : Prop := fnExactPatchLayersRow.holds Tryd.pinned (OpenSpec.ofChange fnExactPatchLayersWrong)

/- THE SECOND FORM. 'bulk': how many values and letters a reading holds, each counted each time it is reached (what is shared counts as often as it is met; a slice's spare places count too). A statement '..UptoSaid' is the law's where the arguments, and the package variables that the reading takes, are together of bulk at most 1048576: NARROWER than '..Said'. Prove '..Said' where nothing that the law and all that it calls make is longer than what came in: it says more and counts as full. Else prove '..UptoSaid'. A law counts once. -/
mutual
def uptoBulk {H : Type} : DataW H → Nat
  | .lit (.string bytes) => bytes.length + 1
  | .lit _ => 1
  | .nil => 1
  | .ptr d => uptoBulk d + 1
  | .slice elems spare => uptoBulkAll elems + uptoBulkAll spare + 1
  | .agg parts => uptoBulkAll parts + 1
  | .iface _ d => uptoBulk d + 1
  | .map entries => uptoBulkEntries entries + 1
  | .held _ => 1
def uptoBulkAll {H : Type} : List (DataW H) → Nat
  | [] => 0
  | d :: r => uptoBulk d + uptoBulkAll r
def uptoBulkEntries {H : Type} : List (Lit × DataW H) → Nat
  | [] => 0
  | x :: r => uptoBulkEntry x + uptoBulkEntries r
def uptoBulkEntry {H : Type} : Lit × DataW H → Nat
  | (.string bytes, d) => bytes.length + uptoBulk d + 1
  | (_, d) => uptoBulk d + 1
 end
def uptoSmall : (H : Type) → List (DataW H) → Bool := fun _ ds => decide (uptoBulkAll ds ≤ 1048576)
def OpenSpec.upto (s : _root_.Go.ChangeSpec) : _root_.Go.OpenSpec := { _root_.Go.OpenSpec.ofChange s with cond := some uptoSmall }

/-- 'laws.FnValidLayer', WHERE WHAT IT READS IS OF BULK AT MOST 1048576: true; the input reads as it did. -/
def fnValidLayerUptoRow : OpenClaim := { program := "ytgjineoiebokhaadoor", sum := "d333174c5d17cdc2d35738a4b3f6d6ec7c1cc223abc1c42ba96d2fe5d639678a", func := "loop.example/settinglayers/laws.FnValidLayer", spec := "fnValidLayer", inPlace := ["internal/bytealg.IndexByteString", "internal/bytealg.IndexString"], unfollowed := true, recurses := true, named := ["unicode/utf8.first", "unicode/utf8.acceptRanges", "internal/bytealg.MaxLen"], plainKeys := false, apart := false, laid := [("unicode/utf8.acceptRanges", laid_unicode_utf8_acceptRanges), ("unicode/utf8.first", laid_unicode_utf8_first)], narrowed := true }
def FnValidLayerUptoSaid : Prop := fnValidLayerUptoRow.holds Tryd.pinned (OpenSpec.upto fnValidLayerSpec)

/-- 'laws.FnLayerSections', WHERE WHAT IT READS IS OF BULK AT MOST 1048576: true; the input reads as it did. -/
def fnLayerSectionsUptoRow : OpenClaim := { program := "ytgjineoiebokhaadoor", sum := "d333174c5d17cdc2d35738a4b3f6d6ec7c1cc223abc1c42ba96d2fe5d639678a", func := "loop.example/settinglayers/laws.FnLayerSections", spec := "fnLayerSections", inPlace := ["internal/bytealg.IndexByteString", "internal/bytealg.IndexString"], unfollowed := true, recurses := true, named := ["unicode/utf8.first", "unicode/utf8.acceptRanges", "internal/bytealg.MaxLen"], plainKeys := false, apart := false, laid := [("unicode/utf8.acceptRanges", laid_unicode_utf8_acceptRanges), ("unicode/utf8.first", laid_unicode_utf8_first)], narrowed := true }
def FnLayerSectionsUptoSaid : Prop := fnLayerSectionsUptoRow.holds Tryd.pinned (OpenSpec.upto fnLayerSectionsSpec)

/-- 'laws.FnSectionOf', WHERE WHAT IT READS IS OF BULK AT MOST 1048576: true; the input reads as it did. -/
def fnSectionOfUptoRow : OpenClaim := { program := "ytgjineoiebokhaadoor", sum := "d333174c5d17cdc2d35738a4b3f6d6ec7c1cc223abc1c42ba96d2fe5d639678a", func := "loop.example/settinglayers/laws.FnSectionOf", spec := "fnSectionOf", inPlace := ["internal/bytealg.IndexByteString", "internal/bytealg.IndexString"], unfollowed := true, recurses := true, named := ["unicode/utf8.first", "unicode/utf8.acceptRanges", "internal/bytealg.MaxLen"], plainKeys := false, apart := false, laid := [("unicode/utf8.acceptRanges", laid_unicode_utf8_acceptRanges), ("unicode/utf8.first", laid_unicode_utf8_first)], narrowed := true }
def FnSectionOfUptoSaid : Prop := fnSectionOfUptoRow.holds Tryd.pinned (OpenSpec.upto fnSectionOfSpec)

/-- 'laws.FnSameLayers', WHERE WHAT IT READS IS OF BULK AT MOST 1048576: true; the input reads as it did. -/
def fnSameLayersUptoRow : OpenClaim := { program := "ytgjineoiebokhaadoor", sum := "d333174c5d17cdc2d35738a4b3f6d6ec7c1cc223abc1c42ba96d2fe5d639678a", func := "loop.example/settinglayers/laws.FnSameLayers", spec := "fnSameLayers", inPlace := ["internal/bytealg.IndexByteString", "internal/bytealg.IndexString"], unfollowed := true, recurses := true, named := ["unicode/utf8.first", "unicode/utf8.acceptRanges", "internal/bytealg.MaxLen"], plainKeys := false, apart := false, laid := [("unicode/utf8.acceptRanges", laid_unicode_utf8_acceptRanges), ("unicode/utf8.first", laid_unicode_utf8_first)], narrowed := true }
def FnSameLayersUptoSaid : Prop := fnSameLayersUptoRow.holds Tryd.pinned (OpenSpec.upto fnSameLayersSpec)

/-- 'laws.FnExactPutEntry', WHERE WHAT IT READS IS OF BULK AT MOST 1048576: true; the input reads as it did. -/
def fnExactPutEntryUptoRow : OpenClaim := { program := "ytgjineoiebokhaadoor", sum := "d333174c5d17cdc2d35738a4b3f6d6ec7c1cc223abc1c42ba96d2fe5d639678a", func := "loop.example/settinglayers/laws.FnExactPutEntry", spec := "fnExactPutEntry", inPlace := ["internal/bytealg.IndexByteString", "internal/bytealg.IndexString"], named := ["unicode/utf8.first", "unicode/utf8.acceptRanges", "internal/bytealg.MaxLen"], plainKeys := false, apart := false, laid := [("unicode/utf8.acceptRanges", laid_unicode_utf8_acceptRanges), ("unicode/utf8.first", laid_unicode_utf8_first)], narrowed := true }
def FnExactPutEntryUptoSaid : Prop := fnExactPutEntryUptoRow.holds Tryd.pinned (OpenSpec.upto fnExactPutEntrySpec)

/-- 'laws.FnExactMergeLayers', WHERE WHAT IT READS IS OF BULK AT MOST 1048576: true; the input reads as it did. -/
def fnExactMergeLayersUptoRow : OpenClaim := { program := "ytgjineoiebokhaadoor", sum := "d333174c5d17cdc2d35738a4b3f6d6ec7c1cc223abc1c42ba96d2fe5d639678a", func := "loop.example/settinglayers/laws.FnExactMergeLayers", spec := "fnExactMergeLayers", inPlace := ["internal/bytealg.IndexByteString", "internal/bytealg.IndexString"], named := ["unicode/utf8.first", "unicode/utf8.acceptRanges", "internal/bytealg.MaxLen"], plainKeys := false, apart := false, laid := [("unicode/utf8.acceptRanges", laid_unicode_utf8_acceptRanges), ("unicode/utf8.first", laid_unicode_utf8_first)], narrowed := true }
def FnExactMergeLayersUptoSaid : Prop := fnExactMergeLayersUptoRow.holds Tryd.pinned (OpenSpec.upto fnExactMergeLayersSpec)

/-- 'laws.FnExactPatchLayers', WHERE WHAT IT READS IS OF BULK AT MOST 1048576: true; the input reads as it did. -/
def fnExactPatchLayersUptoRow : OpenClaim := { program := "ytgjineoiebokhaadoor", sum := "d333174c5d17cdc2d35738a4b3f6d6ec7c1cc223abc1c42ba96d2fe5d639678a", func := "loop.example/settinglayers/laws.FnExactPatchLayers", spec := "fnExactPatchLayers", inPlace := ["internal/bytealg.IndexByteString", "internal/bytealg.IndexString"], named := ["unicode/utf8.first", "unicode/utf8.acceptRanges", "internal/bytealg.MaxLen"], plainKeys := false, apart := false, laid := [("unicode/utf8.acceptRanges", laid_unicode_utf8_acceptRanges), ("unicode/utf8.first", laid_unicode_utf8_first)], narrowed := true }
def FnExactPatchLayersUptoSaid : Prop := fnExactPatchLayersUptoRow.holds Tryd.pinned (OpenSpec.upto fnExactPatchLayersSpec)

end Rows
end Go.Proofs.YtgjineoiebokhaaDoor
