/-
  NARROWER THAN 'FOR EVERY INPUT', by the rows' own cells (each row's printed sentence says how): FnPatchLayers: laid · FnCommonLayer: laid · FnExactWhyValue: laid · FnWhyValue: laid · FnExactCountChanges: laid.
  DERIVED. THE GIVEN ROWS OF THIS SEAT. 5 by the template 'for every input the law returns true; each argument reads behind the call as it read before'; 0 by the template 'total and deterministic' (their statements: YtcecjdjfbgmogaaDoorTotals.lean).
  GIVEN WITH THE SEED: the statements are not yours to turn. If you find one false, say at which input.
  Laid BY PROGRAM, IN A SANDBOX (cutbox-rows.mjs): the forced cells as the released guide's own fill.sh prints them over the translation f25457aec16d8165… (all of the seat's roots in one cut). By AI agents, Wed Nov 11 2026. No macro, syntax, notation, axiom, sorry.
-/
import Derived.Test.YtcecjdjfbgmogaaDoorChecked
import GoSem.PinnedTables
import GoSem.Claim
import GoSem.ClaimJoined
import GoSem.ClaimMapViews
import Derived.JoinedTies
import Derived.KernelRfl
namespace Go.Proofs.YtcecjdjfbgmogaaDoor
/- THE CELL 'sum', in the pinned program and in every row, IS THE sha256 OF THE DUMP (.gsa) THAT YtcecjdjfbgmogaaDoorProg.lean LOADS. Nothing in Lean hashes anything: it is a label: what it is worth is what the hold of that sum in a sandbox is worth. -/
noncomputable def Tryd.pinned : Pinned := { name := "ytcecjdjfbgmogaadoor", sum := "f25457aec16d8165ecf18f53edf8b04381f763045245f6addcfc9c901dc15cd7", checked := Tryd.checked }
namespace Rows
def none {H : Type} : Left H := { results := [], args := [] }

/- WHAT THE LISTED PACKAGE-LEVEL VARIABLES READ AS WHEN THE CALL BEGINS. Each datum BY PROGRAM (the guide's laid-datum.mjs) off the statement by which the dump's own 'gosem.cut.vars' lays the variable. In a bare row this is a premise. The card (YtcecjdjfbgmogaaDoorCards.lean) ties it to the program's text. -/
def laid_unicode_utf8_acceptRanges {H : Type} : DataW H := .agg [.agg [.lit (.int .u8 128), .lit (.int .u8 191)], .agg [.lit (.int .u8 160), .lit (.int .u8 191)], .agg [.lit (.int .u8 128), .lit (.int .u8 159)], .agg [.lit (.int .u8 144), .lit (.int .u8 191)], .agg [.lit (.int .u8 128), .lit (.int .u8 143)], .agg [.lit (.int .u8 0), .lit (.int .u8 0)], .agg [.lit (.int .u8 0), .lit (.int .u8 0)], .agg [.lit (.int .u8 0), .lit (.int .u8 0)], .agg [.lit (.int .u8 0), .lit (.int .u8 0)], .agg [.lit (.int .u8 0), .lit (.int .u8 0)], .agg [.lit (.int .u8 0), .lit (.int .u8 0)], .agg [.lit (.int .u8 0), .lit (.int .u8 0)], .agg [.lit (.int .u8 0), .lit (.int .u8 0)], .agg [.lit (.int .u8 0), .lit (.int .u8 0)], .agg [.lit (.int .u8 0), .lit (.int .u8 0)], .agg [.lit (.int .u8 0), .lit (.int .u8 0)]]
/-- One of Go's own tables, pinned by name: the form's constant. -/
def laid_unicode_utf8_first : DataW Unit := Go.Pinned.utf8First

/-- 'laws.FnPatchLayers': WHATEVER THE INPUT: true; the input reads as it did. -/
def fnPatchLayersSpec : ChangeSpec := { name := "fnPatchLayers", fn := fun _ => fun
  | [d] => { results := [.lit (.bool true)], args := [d] }
  | _ => none }
def fnPatchLayersRow : OpenClaim := { program := "ytcecjdjfbgmogaadoor", sum := "f25457aec16d8165ecf18f53edf8b04381f763045245f6addcfc9c901dc15cd7", func := "loop.example/settinglayers/laws.FnPatchLayers", spec := "fnPatchLayers", inPlace := ["internal/bytealg.IndexByteString", "internal/bytealg.IndexString"], unfollowed := true, recurses := true, named := ["unicode/utf8.first", "unicode/utf8.acceptRanges", "internal/bytealg.MaxLen"], plainKeys := false, apart := false, laid := [("unicode/utf8.acceptRanges", laid_unicode_utf8_acceptRanges), ("unicode/utf8.first", laid_unicode_utf8_first)] }
def FnPatchLayersSaid : Prop := fnPatchLayersRow.holds Tryd.pinned (OpenSpec.ofChange fnPatchLayersSpec)

/-- ITS FALSE NEIGHBOUR: 'it returns false'. Refute it at one input. -/
def fnPatchLayersWrong : ChangeSpec := { name := "fnPatchLayers", fn := fun _ => fun
  | [d] => { results := [.lit (.bool false)], args := [d] }
  | _ => none }
def FnPatchLayersWrongFalsely : Prop := fnPatchLayersRow.holds Tryd.pinned (OpenSpec.ofChange fnPatchLayersWrong)

/-- 'laws.FnCommonLayer': WHATEVER THE INPUT: true; the input reads as it did. -/
def fnCommonLayerSpec : ChangeSpec := { name := "fnCommonLayer", fn := fun _ => fun
  | [d] => { results := [.lit (.bool true)], args := [d] }
  | _ => none }
def fnCommonLayerRow : OpenClaim := { program := "ytcecjdjfbgmogaadoor", sum := "f25457aec16d8165ecf18f53edf8b04381f763045245f6addcfc9c901dc15cd7", func := "loop.example/settinglayers/laws.FnCommonLayer", spec := "fnCommonLayer", inPlace := ["internal/bytealg.IndexByteString", "internal/bytealg.IndexString"], unfollowed := true, recurses := true, named := ["unicode/utf8.first", "unicode/utf8.acceptRanges", "internal/bytealg.MaxLen"], plainKeys := false, apart := false, laid := [("unicode/utf8.acceptRanges", laid_unicode_utf8_acceptRanges), ("unicode/utf8.first", laid_unicode_utf8_first)] }
def FnCommonLayerSaid : Prop := fnCommonLayerRow.holds Tryd.pinned (OpenSpec.ofChange fnCommonLayerSpec)

/-- ITS FALSE NEIGHBOUR: 'it returns false'. Refute it at one input. -/
def fnCommonLayerWrong : ChangeSpec := { name := "fnCommonLayer", fn := fun _ => fun
  | [d] => { results := [.lit (.bool false)], args := [d] }
  | _ => none }
def FnCommonLayerWrongFalsely : Prop := fnCommonLayerRow.holds Tryd.pinned (OpenSpec.ofChange fnCommonLayerWrong)

/-- 'laws.FnExactWhyValue': WHATEVER THE INPUT: true; the input reads as it did. -/
def fnExactWhyValueSpec : ChangeSpec := { name := "fnExactWhyValue", fn := fun _ => fun
  | [d1, d2, d3] => { results := [.lit (.bool true)], args := [d1, d2, d3] }
  | _ => none }
def fnExactWhyValueRow : OpenClaim := { program := "ytcecjdjfbgmogaadoor", sum := "f25457aec16d8165ecf18f53edf8b04381f763045245f6addcfc9c901dc15cd7", func := "loop.example/settinglayers/laws.FnExactWhyValue", spec := "fnExactWhyValue", inPlace := ["internal/bytealg.IndexByteString", "internal/bytealg.IndexString"], named := ["unicode/utf8.first", "unicode/utf8.acceptRanges", "internal/bytealg.MaxLen"], plainKeys := false, apart := false, laid := [("unicode/utf8.acceptRanges", laid_unicode_utf8_acceptRanges), ("unicode/utf8.first", laid_unicode_utf8_first)] }
def FnExactWhyValueSaid : Prop := fnExactWhyValueRow.holds Tryd.pinned (OpenSpec.ofChange fnExactWhyValueSpec)

/-- ITS FALSE NEIGHBOUR: 'it returns false'. Refute it at one input. -/
def fnExactWhyValueWrong : ChangeSpec := { name := "fnExactWhyValue", fn := fun _ => fun
  | [d1, d2, d3] => { results := [.lit (.bool false)], args := [d1, d2, d3] }
  | _ => none }
def FnExactWhyValueWrongFalsely : Prop := fnExactWhyValueRow.holds Tryd.pinned (OpenSpec.ofChange fnExactWhyValueWrong)

/-- 'laws.FnWhyValue': WHATEVER THE INPUT: true; the input reads as it did. -/
def fnWhyValueSpec : ChangeSpec := { name := "fnWhyValue", fn := fun _ => fun
  | [d] => { results := [.lit (.bool true)], args := [d] }
  | _ => none }
def fnWhyValueRow : OpenClaim := { program := "ytcecjdjfbgmogaadoor", sum := "f25457aec16d8165ecf18f53edf8b04381f763045245f6addcfc9c901dc15cd7", func := "loop.example/settinglayers/laws.FnWhyValue", spec := "fnWhyValue", inPlace := ["internal/bytealg.IndexByteString", "internal/bytealg.IndexString"], named := ["unicode/utf8.first", "unicode/utf8.acceptRanges", "internal/bytealg.MaxLen"], plainKeys := false, apart := false, laid := [("unicode/utf8.acceptRanges", laid_unicode_utf8_acceptRanges), ("unicode/utf8.first", laid_unicode_utf8_first)] }
def FnWhyValueSaid : Prop := fnWhyValueRow.holds Tryd.pinned (OpenSpec.ofChange fnWhyValueSpec)

/-- ITS FALSE NEIGHBOUR: 'it returns false'. Refute it at one input. -/
def fnWhyValueWrong : ChangeSpec := { name := "fnWhyValue", fn := fun _ => fun
  | [d] => { results := [.lit (.bool false)], args := [d] }
  | _ => none }
def FnWhyValueWrongFalsely : Prop := fnWhyValueRow.holds Tryd.pinned (OpenSpec.ofChange fnWhyValueWrong)

/-- 'laws.FnExactCountChanges': WHATEVER THE INPUT: true; the input reads as it did. -/
def fnExactCountChangesSpec : ChangeSpec := { name := "fnExactCountChanges", fn := fun _ => fun
  | [d1, d2] => { results := [.lit (.bool true)], args := [d1, d2] }
  | _ => none }
def fnExactCountChangesRow : OpenClaim := { program := "ytcecjdjfbgmogaadoor", sum := "f25457aec16d8165ecf18f53edf8b04381f763045245f6addcfc9c901dc15cd7", func := "loop.example/settinglayers/laws.FnExactCountChanges", spec := "fnExactCountChanges", inPlace := ["internal/bytealg.IndexByteString", "internal/bytealg.IndexString"], named := ["unicode/utf8.first", "unicode/utf8.acceptRanges", "internal/bytealg.MaxLen"], plainKeys := false, apart := false, laid := [("unicode/utf8.acceptRanges", laid_unicode_utf8_acceptRanges), ("unicode/utf8.first", laid_unicode_utf8_first)] }
def FnExactCountChangesSaid : Prop := fnExactCountChangesRow.holds Tryd.pinned (OpenSpec.ofChange fnExactCountChangesSpec)

/-- ITS FALSE NEIGHBOUR: 'it returns false'. Refute it at one input. -/
def fnExactCountChangesWrong : ChangeSpec := { name := "fnExactCountChanges", fn := fun _ => fun
  | [d1, d2] => { results := [.lit (.bool false)], args := [d1, d2] }
  | _ => none }
def FnExactCountChangesWrongFalsely : Prop := fnExactCountChangesRow.holds Tryd.pinned (OpenSpec.ofChange fnExactCountChangesWrong)

/- THE SECOND FORM. 'bulk': how many values and letters a reading holds, each counted each time it is reached (what is shared counts as often as it is met; a slice's spare places count too). A statement '..UptoSaid' is the law's where the arguments, and the package variables that the reading takes, are together of bulk at most 1048576: NARROWER than '..Said'. Prove '..Said' where nothing that the law and all that it calls make is longer than what came in: it says more and counts as full. Else prove '..UptoSaid'. A law counts once. -/
mutual
def uptoBulk {H : Type} : DataW H → Nat
  | .lit (.string bytes) => bytes.length + 1
  | .lit _ => 1
  | .nil => 1
  | .ptr d => uptoBulk d + 1
  | .slice elems spare => uptoBulkAll elems + uptoBulkAll spare + 1
  | .agg parts => uptoBulkAll parts + 1
  | .iface _ d => uptoBulk d + 1
  | .map entries => uptoBulkEntries entries + 1
  | .held _ => 1
def uptoBulkAll {H : Type} : List (DataW H) → Nat
  | [] => 0
  | d :: r => uptoBulk d + uptoBulkAll r
def uptoBulkEntries {H : Type} : List (Lit × DataW H) → Nat
  | [] => 0
  | x :: r => uptoBulkEntry x + uptoBulkEntries r
def uptoBulkEntry {H : Type} : Lit × DataW H → Nat
  | (.string bytes, d) => bytes.length + uptoBulk d + 1
  | (_, d) => uptoBulk d + 1
 end
def uptoSmall : (H : Type) → List (DataW H) → Bool := fun _ ds => decide (uptoBulkAll ds ≤ 1048576)
def OpenSpec.upto (s : _root_.Go.ChangeSpec) : _root_.Go.OpenSpec := { _root_.Go.OpenSpec.ofChange s with cond := some uptoSmall }

/-- 'laws.FnPatchLayers', WHERE WHAT IT READS IS OF BULK AT MOST 1048576: true; the input reads as it did. -/
def fnPatchLayersUptoRow : OpenClaim := { program := "ytcecjdjfbgmogaadoor", sum := "f25457aec16d8165ecf18f53edf8b04381f763045245f6addcfc9c901dc15cd7", func := "loop.example/settinglayers/laws.FnPatchLayers", spec := "fnPatchLayers", inPlace := ["internal/bytealg.IndexByteString", "internal/bytealg.IndexString"], unfollowed := true, recurses := true, named := ["unicode/utf8.first", "unicode/utf8.acceptRanges", "internal/bytealg.MaxLen"], plainKeys := false, apart := false, laid := [("unicode/utf8.acceptRanges", laid_unicode_utf8_acceptRanges), ("unicode/utf8.first", laid_unicode_utf8_first)], narrowed := true }
def FnPatchLayersUptoSaid : Prop := fnPatchLayersUptoRow.holds Tryd.pinned (OpenSpec.upto fnPatchLayersSpec)

/-- 'laws.FnCommonLayer', WHERE WHAT IT READS IS OF BULK AT MOST 1048576: true; the input reads as it did. -/
def fnCommonLayerUptoRow : OpenClaim := { program := "ytcecjdjfbgmogaadoor", sum := "f25457aec16d8165ecf18f53edf8b04381f763045245f6addcfc9c901dc15cd7", func := "loop.example/settinglayers/laws.FnCommonLayer", spec := "fnCommonLayer", inPlace := ["internal/bytealg.IndexByteString", "internal/bytealg.IndexString"], unfollowed := true, recurses := true, named := ["unicode/utf8.first", "unicode/utf8.acceptRanges", "internal/bytealg.MaxLen"], plainKeys := false, apart := false, laid := [("unicode/utf8.acceptRanges", laid_unicode_utf8_acceptRanges), ("unicode/utf8.first", laid_unicode_utf8_first)], narrowed := true }
def FnCommonLayerUptoSaid : Prop := fnCommonLayerUptoRow.holds Tryd.pinned (OpenSpec.upto fnCommonLayerSpec)

/-- 'laws.FnExactWhyValue', WHERE WHAT IT READS IS OF BULK AT MOST 1048576: true; the input reads as it did. -/
def fnExactWhyValueUptoRow : OpenClaim := { program := "ytcecjdjfbgmogaadoor", sum := "f25457aec16d8165ecf18f53edf8b04381f763045245f6addcfc9c901dc15cd7", func := "loop.example/settinglayers/laws.FnExactWhyValue", spec := "fnExactWhyValue", inPlace := ["internal/bytealg.IndexByteString", "internal/bytealg.IndexString"], named := ["unicode/utf8.first", "unicode/utf8.acceptRanges", "internal/bytealg.MaxLen"], plainKeys := false, apart := false, laid := [("unicode/utf8.acceptRanges", laid_unicode_utf8_acceptRanges), ("unicode/utf8.first", laid_unicode_utf8_first)], narrowed := true }
def FnExactWhyValueUptoSaid : Prop := fnExactWhyValueUptoRow.holds Tryd.pinned (OpenSpec.upto fnExactWhyValueSpec)

/-- 'laws.FnWhyValue', WHERE WHAT IT READS IS OF BULK AT MOST 1048576: true; the input reads as it did. -/
def fnWhyValueUptoRow : OpenClaim := { program := "ytcecjdjfbgmogaadoor", sum := "f25457aec16d8165ecf18f53edf8b04381f763045245f6addcfc9c901dc15cd7", func := "loop.example/settinglayers/laws.FnWhyValue", spec := "fnWhyValue", inPlace := ["internal/bytealg.IndexByteString", "internal/bytealg.IndexString"], named := ["unicode/utf8.first", "unicode/utf8.acceptRanges", "internal/bytealg.MaxLen"], plainKeys := false, apart := false, laid := [("unicode/utf8.acceptRanges", laid_unicode_utf8_acceptRanges), ("unicode/utf8.first", laid_unicode_utf8_first)], narrowed := true }
def FnWhyValueUptoSaid : Prop := fnWhyValueUptoRow.holds Tryd.pinned (OpenSpec.upto fnWhyValueSpec)

/-- 'laws.FnExactCountChanges', WHERE WHAT IT READS IS OF BULK AT MOST 1048576: true; the input reads as it did. -/
def fnExactCountChangesUptoRow : OpenClaim := { program := "ytcecjdjfbgmogaadoor", sum := "f25457aec16d8165ecf18f53edf8b04381f763045245f6addcfc9c901dc15cd7", func := "loop.example/settinglayers/laws.FnExactCountChanges", spec := "fnExactCountChanges", inPlace := ["internal/bytealg.IndexByteString", "internal/bytealg.IndexString"], named := ["unicode/utf8.first", "unicode/utf8.acceptRanges", "internal/bytealg.MaxLen"], plainKeys := false, apart := false, laid := [("unicode/utf8.acceptRanges", laid_unicode_utf8_acceptRanges), ("unicode/utf8.first", laid_unicode_utf8_first)], narrowed := true }
def FnExactCountChangesUptoSaid : Prop := fnExactCountChangesUptoRow.holds Tryd.pinned (OpenSpec.upto fnExactCountChangesSpec)

end Rows
end Go.Proofs.YtcecjdjfbgmogaaDoor
