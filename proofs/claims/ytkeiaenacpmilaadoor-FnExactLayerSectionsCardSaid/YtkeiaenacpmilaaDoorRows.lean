/-
  NARROWER THAN 'FOR EVERY INPUT', by the rows' own cells (each row's printed sentence says how): FnExactEscapeText: laid · FnExactValidLayer: laid · FnExactIsFlat: laid · FnExactSectionOf: laid · FnExactCutEntry: laid · FnExactCommonLayer: laid · FnExactPutEntry: laid · FnExactLayerSections: laid · FnExactSameLayers: laid · FnExactMergeLayers: laid · FnExactPatchLayers: laid.
  DERIVED. THE GIVEN ROWS OF THIS SEAT. 11 by the template 'for every input the law returns true; each argument reads behind the call as it read before'; 0 by the template 'total and deterministic' (their statements: YtkeiaenacpmilaaDoorTotals.lean).
  GIVEN WITH THE SEED: the statements are not yours to turn. If you find one false, say at which input.
  Laid BY PROGRAM, IN A SANDBOX (cutbox-rows.mjs): the forced cells as the released guide's own fill.sh prints them over the translation 09773174e5d17656… (all of the seat's roots in one cut). By AI agents, Wed Nov 11 2026. No macro, syntax, notation, axiom, sorry.
-/
import Derived.Test.YtkeiaenacpmilaaDoorChecked
import GoSem.PinnedTables
import GoSem.Claim
import GoSem.ClaimJoined
import GoSem.ClaimMapViews
import Derived.JoinedTies
import Derived.KernelRfl
namespace Go.Proofs.YtkeiaenacpmilaaDoor
/- THE CELL 'sum', in the pinned program and in every row, IS THE sha256 OF THE DUMP (.gsa) THAT YtkeiaenacpmilaaDoorProg.lean LOADS. Nothing in Lean hashes anything: it is a label: what it is worth is what the hold of that sum in a sandbox is worth. -/
noncomputable def Tryd.pinned : Pinned := { name := "ytkeiaenacpmilaadoor", sum := "09773174e5d17656af45398b1f1f0f9a92b705b4a446bda81504ed11f5bf178e", checked := Tryd.checked }
namespace Rows
def none {H : Type} : Left H := { results := [], args := [] }

/- WHAT THE LISTED PACKAGE-LEVEL VARIABLES READ AS WHEN THE CALL BEGINS. Each datum BY PROGRAM (the guide's laid-datum.mjs) off the statement by which the dump's own 'gosem.cut.vars' lays the variable. In a bare row this is a premise. The card (YtkeiaenacpmilaaDoorCards.lean) ties it to the program's text. -/
def laid_unicode_utf8_acceptRanges {H : Type} : DataW H := .agg [.agg [.lit (.int .u8 128), .lit (.int .u8 191)], .agg [.lit (.int .u8 160), .lit (.int .u8 191)], .agg [.lit (.int .u8 128), .lit (.int .u8 159)], .agg [.lit (.int .u8 144), .lit (.int .u8 191)], .agg [.lit (.int .u8 128), .lit (.int .u8 143)], .agg [.lit (.int .u8 0), .lit (.int .u8 0)], .agg [.lit (.int .u8 0), .lit (.int .u8 0)], .agg [.lit (.int .u8 0), .lit (.int .u8 0)], .agg [.lit (.int .u8 0), .lit (.int .u8 0)], .agg [.lit (.int .u8 0), .lit (.int .u8 0)], .agg [.lit (.int .u8 0), .lit (.int .u8 0)], .agg [.lit (.int .u8 0), .lit (.int .u8 0)], .agg [.lit (.int .u8 0), .lit (.int .u8 0)], .agg [.lit (.int .u8 0), .lit (.int .u8 0)], .agg [.lit (.int .u8 0), .lit (.int .u8 0)], .agg [.lit (.int .u8 0), .lit (.int .u8 0)]]
/-- One of Go's own tables, pinned by name: the form's constant. -/
def laid_unicode_utf8_first : DataW Unit := Go.Pinned.utf8First

/-- 'laws.FnExactEscapeText': WHATEVER THE INPUT: true; the input reads as it did. -/
def fnExactEscapeTextSpec : ChangeSpec := { name := "fnExactEscapeText", fn := fun _ => fun
  | [d] => { results := [.lit (.bool true)], args := [d] }
  | _ => none }
def fnExactEscapeTextRow : OpenClaim := { program := "ytkeiaenacpmilaadoor", sum := "09773174e5d17656af45398b1f1f0f9a92b705b4a446bda81504ed11f5bf178e", func := "loop.example/settinglayers/laws.FnExactEscapeText", spec := "fnExactEscapeText", inPlace := ["internal/bytealg.IndexByteString", "internal/bytealg.IndexString", "internal/bytealg.CountString", "internal/abi.NoEscape", "internal/bytealg.MakeNoZero"], named := ["unicode/utf8.first", "unicode/utf8.acceptRanges", "internal/bytealg.MaxLen"], plainKeys := false, apart := false, laid := [("unicode/utf8.acceptRanges", laid_unicode_utf8_acceptRanges), ("unicode/utf8.first", laid_unicode_utf8_first)] }
def FnExactEscapeTextSaid : Prop := fnExactEscapeTextRow.holds Tryd.pinned (OpenSpec.ofChange fnExactEscapeTextSpec)

/-- ITS FALSE NEIGHBOUR: 'it returns false'. Refute it at one input. -/
def fnExactEscapeTextWrong : ChangeSpec := { name := "fnExactEscapeText", fn := fun _ => fun
  | [d] => { results := [.lit (.bool false)], args := [d] }
  | _ => none }
def FnExactEscapeTextWrongFalsely : Prop := fnExactEscapeTextRow.holds Tryd.pinned (OpenSpec.ofChange fnExactEscapeTextWrong)

/-- 'laws.FnExactValidLayer': WHATEVER THE INPUT: true; the input reads as it did. -/
def fnExactValidLayerSpec : ChangeSpec := { name := "fnExactValidLayer", fn := fun _ => fun
  | [d] => { results := [.lit (.bool true)], args := [d] }
  | _ => none }
def fnExactValidLayerRow : OpenClaim := { program := "ytkeiaenacpmilaadoor", sum := "09773174e5d17656af45398b1f1f0f9a92b705b4a446bda81504ed11f5bf178e", func := "loop.example/settinglayers/laws.FnExactValidLayer", spec := "fnExactValidLayer", inPlace := ["internal/bytealg.IndexByteString", "internal/bytealg.IndexString"], named := ["unicode/utf8.first", "unicode/utf8.acceptRanges", "internal/bytealg.MaxLen"], plainKeys := false, apart := false, laid := [("unicode/utf8.acceptRanges", laid_unicode_utf8_acceptRanges), ("unicode/utf8.first", laid_unicode_utf8_first)] }
def FnExactValidLayerSaid : Prop := fnExactValidLayerRow.holds Tryd.pinned (OpenSpec.ofChange fnExactValidLayerSpec)

/-- ITS FALSE NEIGHBOUR: 'it returns false'. Refute it at one input. -/
def fnExactValidLayerWrong : ChangeSpec := { name := "fnExactValidLayer", fn := fun _ => fun
  | [d] => { results := [.lit (.bool false)], args := [d] }
  | _ => none }
def FnExactValidLayerWrongFalsely : Prop := fnExactValidLayerRow.holds Tryd.pinned (OpenSpec.ofChange fnExactValidLayerWrong)

/-- 'laws.FnExactIsFlat': WHATEVER THE INPUT: true; the input reads as it did. -/
def fnExactIsFlatSpec : ChangeSpec := { name := "fnExactIsFlat", fn := fun _ => fun
  | [d] => { results := [.lit (.bool true)], args := [d] }
  | _ => none }
def fnExactIsFlatRow : OpenClaim := { program := "ytkeiaenacpmilaadoor", sum := "09773174e5d17656af45398b1f1f0f9a92b705b4a446bda81504ed11f5bf178e", func := "loop.example/settinglayers/laws.FnExactIsFlat", spec := "fnExactIsFlat", inPlace := ["internal/bytealg.IndexByteString", "internal/bytealg.IndexString"], named := ["unicode/utf8.first", "unicode/utf8.acceptRanges", "internal/bytealg.MaxLen"], plainKeys := false, apart := false, laid := [("unicode/utf8.acceptRanges", laid_unicode_utf8_acceptRanges), ("unicode/utf8.first", laid_unicode_utf8_first)] }
def FnExactIsFlatSaid : Prop := fnExactIsFlatRow.holds Tryd.pinned (OpenSpec.ofChange fnExactIsFlatSpec)

/-- ITS FALSE NEIGHBOUR: 'it returns false'. Refute it at one input. -/
def fnExactIsFlatWrong : ChangeSpec := { name := "fnExactIsFlat", fn := fun _ => fun
  | [d] => { results := [.lit (.bool false)], args := [d] }
  | _ => none }
def FnExactIsFlatWrongFalsely : Prop := fnExactIsFlatRow.holds Tryd.pinned (OpenSpec.ofChange fnExactIsFlatWrong)

/-- 'laws.FnExactSectionOf': WHATEVER THE INPUT: true; the input reads as it did. -/
def fnExactSectionOfSpec : ChangeSpec := { name := "fnExactSectionOf", fn := fun _ => fun
  | [d1, d2] => { results := [.lit (.bool true)], args := [d1, d2] }
  | _ => none }
def fnExactSectionOfRow : OpenClaim := { program := "ytkeiaenacpmilaadoor", sum := "09773174e5d17656af45398b1f1f0f9a92b705b4a446bda81504ed11f5bf178e", func := "loop.example/settinglayers/laws.FnExactSectionOf", spec := "fnExactSectionOf", inPlace := ["internal/bytealg.IndexByteString", "internal/bytealg.IndexString"], unfollowed := true, recurses := true, named := ["unicode/utf8.first", "unicode/utf8.acceptRanges", "internal/bytealg.MaxLen"], plainKeys := false, apart := false, laid := [("unicode/utf8.acceptRanges", laid_unicode_utf8_acceptRanges), ("unicode/utf8.first", laid_unicode_utf8_first)] }
def FnExactSectionOfSaid : Prop := fnExactSectionOfRow.holds Tryd.pinned (OpenSpec.ofChange fnExactSectionOfSpec)

/-- ITS FALSE NEIGHBOUR: 'it returns false'. Refute it at one input. -/
def fnExactSectionOfWrong : ChangeSpec := { name := "fnExactSectionOf", fn := fun _ => fun
  | [d1, d2] => { results := [.lit (.bool false)], args := [d1, d2] }
  | _ => none }
def FnExactSectionOfWrongFalsely : Prop := fnExactSectionOfRow.holds Tryd.pinned (OpenSpec.ofChange fnExactSectionOfWrong)

/-- 'laws.FnExactCutEntry': WHATEVER THE INPUT: true; the input reads as it did. -/
def fnExactCutEntrySpec : ChangeSpec := { name := "fnExactCutEntry", fn := fun _ => fun
  | [d1, d2, d3] => { results := [.lit (.bool true)], args := [d1, d2, d3] }
  | _ => none }
def fnExactCutEntryRow : OpenClaim := { program := "ytkeiaenacpmilaadoor", sum := "09773174e5d17656af45398b1f1f0f9a92b705b4a446bda81504ed11f5bf178e", func := "loop.example/settinglayers/laws.FnExactCutEntry", spec := "fnExactCutEntry", inPlace := ["internal/bytealg.IndexByteString", "internal/bytealg.IndexString"], unfollowed := true, recurses := true, named := ["unicode/utf8.first", "unicode/utf8.acceptRanges", "internal/bytealg.MaxLen"], plainKeys := false, apart := false, laid := [("unicode/utf8.acceptRanges", laid_unicode_utf8_acceptRanges), ("unicode/utf8.first", laid_unicode_utf8_first)] }
def FnExactCutEntrySaid : Prop := fnExactCutEntryRow.holds Tryd.pinned (OpenSpec.ofChange fnExactCutEntrySpec)

/-- ITS FALSE NEIGHBOUR: 'it returns false'. Refute it at one input. -/
def fnExactCutEntryWrong : ChangeSpec := { name := "fnExactCutEntry", fn := fun _ => fun
  | [d1, d2, d3] => { results := [.lit (.bool false)], args := [d1, d2, d3] }
  | _ => none }
def FnExactCutEntryWrongFalsely : Prop := fnExactCutEntryRow.holds Tryd.pinned (OpenSpec.ofChange fnExactCutEntryWrong)

/-- 'laws.FnExactCommonLayer': WHATEVER THE INPUT: true; the input reads as it did. -/
def fnExactCommonLayerSpec : ChangeSpec := { name := "fnExactCommonLayer", fn := fun _ => fun
  | [d1, d2] => { results := [.lit (.bool true)], args := [d1, d2] }
  | _ => none }
def fnExactCommonLayerRow : OpenClaim := { program := "ytkeiaenacpmilaadoor", sum := "09773174e5d17656af45398b1f1f0f9a92b705b4a446bda81504ed11f5bf178e", func := "loop.example/settinglayers/laws.FnExactCommonLayer", spec := "fnExactCommonLayer", inPlace := ["internal/bytealg.IndexByteString", "internal/bytealg.IndexString"], unfollowed := true, recurses := true, named := ["unicode/utf8.first", "unicode/utf8.acceptRanges", "internal/bytealg.MaxLen"], plainKeys := false, apart := false, laid := [("unicode/utf8.acceptRanges", laid_unicode_utf8_acceptRanges), ("unicode/utf8.first", laid_unicode_utf8_first)] }
def FnExactCommonLayerSaid : Prop := fnExactCommonLayerRow.holds Tryd.pinned (OpenSpec.ofChange fnExactCommonLayerSpec)

/-- ITS FALSE NEIGHBOUR: 'it returns false'. Refute it at one input. -/
def fnExactCommonLayerWrong : ChangeSpec := { name := "fnExactCommonLayer", fn := fun _ => fun
  | [d1, d2] => { results := [.lit (.bool false)], args := [d1, d2] }
  | _ => none }
def FnExactCommonLayerWrongFalsely : Prop := fnExactCommonLayerRow.holds Tryd.pinned (OpenSpec.ofChange fnExactCommonLayerWrong)

/-- 'laws.FnExactPutEntry': WHATEVER THE INPUT: true; the input reads as it did. -/
def fnExactPutEntrySpec : ChangeSpec := { name := "fnExactPutEntry", fn := fun _ => fun
  | [d1, d2] => { results := [.lit (.bool true)], args := [d1, d2] }
  | _ => none }
def fnExactPutEntryRow : OpenClaim := { program := "ytkeiaenacpmilaadoor", sum := "09773174e5d17656af45398b1f1f0f9a92b705b4a446bda81504ed11f5bf178e", func := "loop.example/settinglayers/laws.FnExactPutEntry", spec := "fnExactPutEntry", inPlace := ["internal/bytealg.IndexByteString", "internal/bytealg.IndexString"], named := ["unicode/utf8.first", "unicode/utf8.acceptRanges", "internal/bytealg.MaxLen"], plainKeys := false, apart := false, laid := [("unicode/utf8.acceptRanges", laid_unicode_utf8_acceptRanges), ("unicode/utf8.first", laid_unicode_utf8_first)] }
def FnExactPutEntrySaid : Prop := fnExactPutEntryRow.holds Tryd.pinned (OpenSpec.ofChange fnExactPutEntrySpec)

/-- ITS FALSE NEIGHBOUR: 'it returns false'. Refute it at one input. -/
def fnExactPutEntryWrong : ChangeSpec := { name := "fnExactPutEntry", fn := fun _ => fun
  | [d1, d2] => { results := [.lit (.bool false)], args := [d1, d2] }
  | _ => none }
def FnExactPutEntryWrongFalsely : Prop := fnExactPutEntryRow.holds Tryd.pinned (OpenSpec.ofChange fnExactPutEntryWrong)

/-- 'laws.FnExactLayerSections': WHATEVER THE INPUT: true; the input reads as it did. -/
def fnExactLayerSectionsSpec : ChangeSpec := { name := "fnExactLayerSections", fn := fun _ => fun
  | [d] => { results := [.lit (.bool true)], args := [d] }
  | _ => none }
def fnExactLayerSectionsRow : OpenClaim := { program := "ytkeiaenacpmilaadoor", sum := "09773174e5d17656af45398b1f1f0f9a92b705b4a446bda81504ed11f5bf178e", func := "loop.example/settinglayers/laws.FnExactLayerSections", spec := "fnExactLayerSections", inPlace := ["internal/bytealg.IndexByteString", "internal/bytealg.IndexString"], named := ["unicode/utf8.first", "unicode/utf8.acceptRanges", "internal/bytealg.MaxLen"], plainKeys := false, apart := false, laid := [("unicode/utf8.acceptRanges", laid_unicode_utf8_acceptRanges), ("unicode/utf8.first", laid_unicode_utf8_first)] }
def FnExactLayerSectionsSaid : Prop := fnExactLayerSectionsRow.holds Tryd.pinned (OpenSpec.ofChange fnExactLayerSectionsSpec)

/-- ITS FALSE NEIGHBOUR: 'it returns false'. Refute it at one input. -/
def fnExactLayerSectionsWrong : ChangeSpec := { name := "fnExactLayerSections", fn := fun _ => fun
  | [d] => { results := [.lit (.bool false)], args := [d] }
  | _ => none }
def FnExactLayerSectionsWrongFalsely : Prop := fnExactLayerSectionsRow.holds Tryd.pinned (OpenSpec.ofChange fnExactLayerSectionsWrong)

/-- 'laws.FnExactSameLayers': WHATEVER THE INPUT: true; the input reads as it did. -/
def fnExactSameLayersSpec : ChangeSpec := { name := "fnExactSameLayers", fn := fun _ => fun
  | [d1, d2] => { results := [.lit (.bool true)], args := [d1, d2] }
  | _ => none }
def fnExactSameLayersRow : OpenClaim := { program := "ytkeiaenacpmilaadoor", sum := "09773174e5d17656af45398b1f1f0f9a92b705b4a446bda81504ed11f5bf178e", func := "loop.example/settinglayers/laws.FnExactSameLayers", spec := "fnExactSameLayers", inPlace := ["internal/bytealg.IndexByteString", "internal/bytealg.IndexString"], unfollowed := true, recurses := true, named := ["unicode/utf8.first", "unicode/utf8.acceptRanges", "internal/bytealg.MaxLen"], plainKeys := false, apart := false, laid := [("unicode/utf8.acceptRanges", laid_unicode_utf8_acceptRanges), ("unicode/utf8.first", laid_unicode_utf8_first)] }
def FnExactSameLayersSaid : Prop := fnExactSameLayersRow.holds Tryd.pinned (OpenSpec.ofChange fnExactSameLayersSpec)

/-- ITS FALSE NEIGHBOUR: 'it returns false'. Refute it at one input. -/
def fnExactSameLayersWrong : ChangeSpec := { name := "fnExactSameLayers", fn := fun _ => fun
  | [d1, d2] => { results := [.lit (.bool false)], args := [d1, d2] }
  | _ => none }
def FnExactSameLayersWrongFalsely : Prop := fnExactSameLayersRow.holds Tryd.pinned (OpenSpec.ofChange fnExactSameLayersWrong)

/-- 'laws.FnExactMergeLayers': WHATEVER THE INPUT: true; the input reads as it did. -/
def fnExactMergeLayersSpec : ChangeSpec := { name := "fnExactMergeLayers", fn := fun _ => fun
  | [d1, d2] => { results := [.lit (.bool true)], args := [d1, d2] }
  | _ => none }
def fnExactMergeLayersRow : OpenClaim := { program := "ytkeiaenacpmilaadoor", sum := "09773174e5d17656af45398b1f1f0f9a92b705b4a446bda81504ed11f5bf178e", func := "loop.example/settinglayers/laws.FnExactMergeLayers", spec := "fnExactMergeLayers", inPlace := ["internal/bytealg.IndexByteString", "internal/bytealg.IndexString"], named := ["unicode/utf8.first", "unicode/utf8.acceptRanges", "internal/bytealg.MaxLen"], plainKeys := false, apart := false, laid := [("unicode/utf8.acceptRanges", laid_unicode_utf8_acceptRanges), ("unicode/utf8.first", laid_unicode_utf8_first)] }
def FnExactMergeLayersSaid : Prop := fnExactMergeLayersRow.holds Tryd.pinned (OpenSpec.ofChange fnExactMergeLayersSpec)

/-- ITS FALSE NEIGHBOUR: 'it returns false'. Refute it at one input. -/
def fnExactMergeLayersWrong : ChangeSpec := { name := "fnExactMergeLayers", fn := fun _ => fun
  | [d1, d2] => { results := [.lit (.bool false)], args := [d1, d2] }
  | _ => none }
def FnExactMergeLayersWrongFalsely : Prop := fnExactMergeLayersRow.holds Tryd.pinned (OpenSpec.ofChange fnExactMergeLayersWrong)

/-- 'laws.FnExactPatchLayers': WHATEVER THE INPUT: true; the input reads as it did. -/
def fnExactPatchLayersSpec : ChangeSpec := { name := "fnExactPatchLayers", fn := fun _ => fun
  | [d1, d2] => { results := [.lit (.bool true)], args := [d1, d2] }
  | _ => none }
def fnExactPatchLayersRow : OpenClaim := { program := "ytkeiaenacpmilaadoor", sum := "09773174e5d17656af45398b1f1f0f9a92b705b4a446bda81504ed11f5bf178e", func := "loop.example/settinglayers/laws.FnExactPatchLayers", spec := "fnExactPatchLayers", inPlace := ["internal/bytealg.IndexByteString", "internal/bytealg.IndexString"], named := ["unicode/utf8.first", "unicode/utf8.acceptRanges", "internal/bytealg.MaxLen"], plainKeys := false, apart := false, laid := [("unicode/utf8.acceptRanges", laid_unicode_utf8_acceptRanges), ("unicode/utf8.first", laid_unicode_utf8_first)] }
def FnExactPatchLayersSaid : Prop := fnExactPatchLayersRow.holds Tryd.pinned (OpenSpec.ofChange fnExactPatchLayersSpec)

/-- ITS FALSE NEIGHBOUR: 'it returns false'. Refute it at one input. -/
def fnExactPatchLayersWrong : ChangeSpec := { name := "fnExactPatchLayers", fn := fun _ => fun
  | [d1, d2] => { results := [.lit (.bool false)], args := [d1, d2] }
  | _ => none }
def FnExactPatchLayersWrongFalsely : Prop := fnExactPatchLayersRow.holds Tryd.pinned (OpenSpec.ofChange fnExactPatchLayersWrong)

/- THE SECOND FORM. 'bulk': how many values and letters a reading holds, each counted each time it is reached (what is shared counts as often as it is met; a slice's spare places count too). A statement '..UptoSaid' is the law's where the arguments, and the package variables that the reading takes, are together of bulk at most 1048576: NARROWER than '..Said'. Prove '..Said' where nothing that the law and all that it calls make is longer than what came in: it says more and counts as full. Else prove '..UptoSaid'. A law counts once. -/
mutual
def uptoBulk {H : Type} : DataW H → Nat
  | .lit (.string bytes) => bytes.length + 1
  | .lit _ => 1
  | .nil => 1
  | .ptr d => uptoBulk d + 1
  | .slice elems spare => uptoBulkAll elems + uptoBulkAll spare + 1
  | .agg parts => uptoBulkAll parts + 1
  | .iface _ d => uptoBulk d + 1
  | .map entries => uptoBulkEntries entries + 1
  | .held _ => 1
def uptoBulkAll {H : Type} : List (DataW H) → Nat
  | [] => 0
  | d :: r => uptoBulk d + uptoBulkAll r
def uptoBulkEntries {H : Type} : List (Lit × DataW H) → Nat
  | [] => 0
  | x :: r => uptoBulkEntry x + uptoBulkEntries r
def uptoBulkEntry {H : Type} : Lit × DataW H → Nat
  | (.string bytes, d) => bytes.length + uptoBulk d + 1
  | (_, d) => uptoBulk d + 1
 end
def uptoSmall : (H : Type) → List (DataW H) → Bool := fun _ ds => decide (uptoBulkAll ds ≤ 1048576)
def OpenSpec.upto (s : _root_.Go.ChangeSpec) : _root_.Go.OpenSpec := { _root_.Go.OpenSpec.ofChange s with cond := some uptoSmall }

/-- 'laws.FnExactEscapeText', WHERE WHAT IT READS IS OF BULK AT MOST 1048576: true; the input reads as it did. -/
def fnExactEscapeTextUptoRow : OpenClaim := { program := "ytkeiaenacpmilaadoor", sum := "09773174e5d17656af45398b1f1f0f9a92b705b4a446bda81504ed11f5bf178e", func := "loop.example/settinglayers/laws.FnExactEscapeText", spec := "fnExactEscapeText", inPlace := ["internal/bytealg.IndexByteString", "internal/bytealg.IndexString", "internal/bytealg.CountString", "internal/abi.NoEscape", "internal/bytealg.MakeNoZero"], named := ["unicode/utf8.first", "unicode/utf8.acceptRanges", "internal/bytealg.MaxLen"], plainKeys := false, apart := false, laid := [("unicode/utf8.acceptRanges", laid_unicode_utf8_acceptRanges), ("unicode/utf8.first", laid_unicode_utf8_first)], narrowed := true }
def FnExactEscapeTextUptoSaid : Prop := fnExactEscapeTextUptoRow.holds Tryd.pinned (OpenSpec.upto fnExactEscapeTextSpec)

/-- 'laws.FnExactValidLayer', WHERE WHAT IT READS IS OF BULK AT MOST 1048576: true; the input reads as it did. -/
def fnExactValidLayerUptoRow : OpenClaim := { program := "ytkeiaenacpmilaadoor", sum := "09773174e5d17656af45398b1f1f0f9a92b705b4a446bda81504ed11f5bf178e", func := "loop.example/settinglayers/laws.FnExactValidLayer", spec := "fnExactValidLayer", inPlace := ["internal/bytealg.IndexByteString", "internal/bytealg.IndexString"], named := ["unicode/utf8.first", "unicode/utf8.acceptRanges", "internal/bytealg.MaxLen"], plainKeys := false, apart := false, laid := [("unicode/utf8.acceptRanges", laid_unicode_utf8_acceptRanges), ("unicode/utf8.first", laid_unicode_utf8_first)], narrowed := true }
def FnExactValidLayerUptoSaid : Prop := fnExactValidLayerUptoRow.holds Tryd.pinned (OpenSpec.upto fnExactValidLayerSpec)

/-- 'laws.FnExactIsFlat', WHERE WHAT IT READS IS OF BULK AT MOST 1048576: true; the input reads as it did. -/
def fnExactIsFlatUptoRow : OpenClaim := { program := "ytkeiaenacpmilaadoor", sum := "09773174e5d17656af45398b1f1f0f9a92b705b4a446bda81504ed11f5bf178e", func := "loop.example/settinglayers/laws.FnExactIsFlat", spec := "fnExactIsFlat", inPlace := ["internal/bytealg.IndexByteString", "internal/bytealg.IndexString"], named := ["unicode/utf8.first", "unicode/utf8.acceptRanges", "internal/bytealg.MaxLen"], plainKeys := false, apart := false, laid := [("unicode/utf8.acceptRanges", laid_unicode_utf8_acceptRanges), ("unicode/utf8.first", laid_unicode_utf8_first)], narrowed := true }
def FnExactIsFlatUptoSaid : Prop := fnExactIsFlatUptoRow.holds Tryd.pinned (OpenSpec.upto fnExactIsFlatSpec)

/-- 'laws.FnExactSectionOf', WHERE WHAT IT READS IS OF BULK AT MOST 1048576: true; the input reads as it did. -/
def fnExactSectionOfUptoRow : OpenClaim := { program := "ytkeiaenacpmilaadoor", sum := "09773174e5d17656af45398b1f1f0f9a92b705b4a446bda81504ed11f5bf178e", func := "loop.example/settinglayers/laws.FnExactSectionOf", spec := "fnExactSectionOf", inPlace := ["internal/bytealg.IndexByteString", "internal/bytealg.IndexString"], unfollowed := true, recurses := true, named := ["unicode/utf8.first", "unicode/utf8.acceptRanges", "internal/bytealg.MaxLen"], plainKeys := false, apart := false, laid := [("unicode/utf8.acceptRanges", laid_unicode_utf8_acceptRanges), ("unicode/utf8.first", laid_unicode_utf8_first)], narrowed := true }
def FnExactSectionOfUptoSaid : Prop := fnExactSectionOfUptoRow.holds Tryd.pinned (OpenSpec.upto fnExactSectionOfSpec)

/-- 'laws.FnExactCutEntry', WHERE WHAT IT READS IS OF BULK AT MOST 1048576: true; the input reads as it did. -/
def fnExactCutEntryUptoRow : OpenClaim := { program := "ytkeiaenacpmilaadoor", sum := "09773174e5d17656af45398b1f1f0f9a92b705b4a446bda81504ed11f5bf178e", func := "loop.example/settinglayers/laws.FnExactCutEntry", spec := "fnExactCutEntry", inPlace := ["internal/bytealg.IndexByteString", "internal/bytealg.IndexString"], unfollowed := true, recurses := true, named := ["unicode/utf8.first", "unicode/utf8.acceptRanges", "internal/bytealg.MaxLen"], plainKeys := false, apart := false, laid := [("unicode/utf8.acceptRanges", laid_unicode_utf8_acceptRanges), ("unicode/utf8.first", laid_unicode_utf8_first)], narrowed := true }
def FnExactCutEntryUptoSaid : Prop := fnExactCutEntryUptoRow.holds Tryd.pinned (OpenSpec.upto fnExactCutEntrySpec)

/-- 'laws.FnExactCommonLayer', WHERE WHAT IT READS IS OF BULK AT MOST 1048576: true; the input reads as it did. -/
def fnExactCommonLayerUptoRow : OpenClaim := { program := "ytkeiaenacpmilaadoor", sum := "09773174e5d17656af45398b1f1f0f9a92b705b4a446bda81504ed11f5bf178e", func := "loop.example/settinglayers/laws.FnExactCommonLayer", spec := "fnExactCommonLayer", inPlace := ["internal/bytealg.IndexByteString", "internal/bytealg.IndexString"], unfollowed := true, recurses := true, named := ["unicode/utf8.first", "unicode/utf8.acceptRanges", "internal/bytealg.MaxLen"], plainKeys := false, apart := false, laid := [("unicode/utf8.acceptRanges", laid_unicode_utf8_acceptRanges), ("unicode/utf8.first", laid_unicode_utf8_first)], narrowed := true }
def FnExactCommonLayerUptoSaid : Prop := fnExactCommonLayerUptoRow.holds Tryd.pinned (OpenSpec.upto fnExactCommonLayerSpec)

/-- 'laws.FnExactPutEntry', WHERE WHAT IT READS IS OF BULK AT MOST 1048576: true; the input reads as it did. -/
def fnExactPutEntryUptoRow : OpenClaim := { program := "ytkeiaenacpmilaadoor", sum := "09773174e5d17656af45398b1f1f0f9a92b705b4a446bda81504ed11f5bf178e", func := "loop.example/settinglayers/laws.FnExactPutEntry", spec := "fnExactPutEntry", inPlace := ["internal/bytealg.IndexByteString", "internal/bytealg.IndexString"], named := ["unicode/utf8.first", "unicode/utf8.acceptRanges", "internal/bytealg.MaxLen"], plainKeys := false, apart := false, laid := [("unicode/utf8.acceptRanges", laid_unicode_utf8_acceptRanges), ("unicode/utf8.first", laid_unicode_utf8_first)], narrowed := true }
def FnExactPutEntryUptoSaid : Prop := fnExactPutEntryUptoRow.holds Tryd.pinned (OpenSpec.upto fnExactPutEntrySpec)

/-- 'laws.FnExactLayerSections', WHERE WHAT IT READS IS OF BULK AT MOST 1048576: true; the input reads as it did. -/
def fnExactLayerSectionsUptoRow : OpenClaim := { program := "ytkeiaenacpmilaadoor", sum := "09773174e5d17656af45398b1f1f0f9a92b705b4a446bda81504ed11f5bf178e", func := "loop.example/settinglayers/laws.FnExactLayerSections", spec := "fnExactLayerSections", inPlace := ["internal/bytealg.IndexByteString", "internal/bytealg.IndexString"], named := ["unicode/utf8.first", "unicode/utf8.acceptRanges", "internal/bytealg.MaxLen"], plainKeys := false, apart := false, laid := [("unicode/utf8.acceptRanges", laid_unicode_utf8_acceptRanges), ("unicode/utf8.first", laid_unicode_utf8_first)], narrowed := true }
def FnExactLayerSectionsUptoSaid : Prop := fnExactLayerSectionsUptoRow.holds Tryd.pinned (OpenSpec.upto fnExactLayerSectionsSpec)

/-- 'laws.FnExactSameLayers', WHERE WHAT IT READS IS OF BULK AT MOST 1048576: true; the input reads as it did. -/
def fnExactSameLayersUptoRow : OpenClaim := { program := "ytkeiaenacpmilaadoor", sum := "09773174e5d17656af45398b1f1f0f9a92b705b4a446bda81504ed11f5bf178e", func := "loop.example/settinglayers/laws.FnExactSameLayers", spec := "fnExactSameLayers", inPlace := ["internal/bytealg.IndexByteString", "internal/bytealg.IndexString"], unfollowed := true, recurses := true, named := ["unicode/utf8.first", "unicode/utf8.acceptRanges", "internal/bytealg.MaxLen"], plainKeys := false, apart := false, laid := [("unicode/utf8.acceptRanges", laid_unicode_utf8_acceptRanges), ("unicode/utf8.first", laid_unicode_utf8_first)], narrowed := true }
def FnExactSameLayersUptoSaid : Prop := fnExactSameLayersUptoRow.holds Tryd.pinned (OpenSpec.upto fnExactSameLayersSpec)

/-- 'laws.FnExactMergeLayers', WHERE WHAT IT READS IS OF BULK AT MOST 1048576: true; the input reads as it did. -/
def fnExactMergeLayersUptoRow : OpenClaim := { program := "ytkeiaenacpmilaadoor", sum := "09773174e5d17656af45398b1f1f0f9a92b705b4a446bda81504ed11f5bf178e", func := "loop.example/settinglayers/laws.FnExactMergeLayers", spec := "fnExactMergeLayers", inPlace := ["internal/bytealg.IndexByteString", "internal/bytealg.IndexString"], named := ["unicode/utf8.first", "unicode/utf8.acceptRanges", "internal/bytealg.MaxLen"], plainKeys := false, apart := false, laid := [("unicode/utf8.acceptRanges", laid_unicode_utf8_acceptRanges), ("unicode/utf8.first", laid_unicode_utf8_first)], narrowed := true }
def FnExactMergeLayersUptoSaid : Prop := fnExactMergeLayersUptoRow.holds Tryd.pinned (OpenSpec.upto fnExactMergeLayersSpec)

/-- 'laws.FnExactPatchLayers', WHERE WHAT IT READS IS OF BULK AT MOST 1048576: true; the input reads as it did. -/
def fnExactPatchLayersUptoRow : OpenClaim := { program := "ytkeiaenacpmilaadoor", sum := "09773174e5d17656af45398b1f1f0f9a92b705b4a446bda81504ed11f5bf178e", func := "loop.example/settinglayers/laws.FnExactPatchLayers", spec := "fnExactPatchLayers", inPlace := ["internal/bytealg.IndexByteString", "internal/bytealg.IndexString"], named := ["unicode/utf8.first", "unicode/utf8.acceptRanges", "internal/bytealg.MaxLen"], plainKeys := false, apart := false, laid := [("unicode/utf8.acceptRanges", laid_unicode_utf8_acceptRanges), ("unicode/utf8.first", laid_unicode_utf8_first)], narrowed := true }
def FnExactPatchLayersUptoSaid : Prop := fnExactPatchLayersUptoRow.holds Tryd.pinned (OpenSpec.upto fnExactPatchLayersSpec)

end Rows
end Go.Proofs.YtkeiaenacpmilaaDoor
