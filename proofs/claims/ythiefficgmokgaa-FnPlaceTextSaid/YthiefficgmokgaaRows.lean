/-
  No cell of these rows narrows 'for every input' (looked for: loops, veiled, ifaces, maps, wideKeys, modest, calm, conditions, laid).
  DERIVED. THE GIVEN ROWS OF THIS SEAT. 5 by the template 'for every input the law returns true; each argument reads behind the call as it read before'; 0 by the template 'total and deterministic' (their statements: YthiefficgmokgaaTotals.lean).
  GIVEN WITH THE SEED: the statements are not yours to turn. If you find one false, say at which input.
  Laid BY PROGRAM, IN A SANDBOX (cutbox-rows.mjs): the forced cells as the released guide's own fill.sh prints them over the translation 3aad0a099f990209… (all of the seat's roots in one cut). By AI agents, Wed Nov 11 2026. No macro, syntax, notation, axiom, sorry.
-/
import Derived.Test.YthiefficgmokgaaChecked
import GoSem.Claim
import GoSem.ClaimJoined
import GoSem.ClaimMapViews
import Derived.JoinedTies
import Derived.KernelRfl
namespace Go.Proofs.Ythiefficgmokgaa
/- THE CELL 'sum', in the pinned program and in every row, IS THE sha256 OF THE DUMP (.gsa) THAT YthiefficgmokgaaProg.lean LOADS. Nothing in Lean hashes anything: it is a label: what it is worth is what the hold of that sum in a sandbox is worth. -/
noncomputable def Try.pinned : Pinned := { name := "ythiefficgmokgaa", sum := "3aad0a099f9902098f7daec1d0eae6e805d95dad54fa019f7f3ea20253c77f9d", checked := Try.checked }
namespace Rows
def none {H : Type} : Left H := { results := [], args := [] }

/-- 'laws.FnExactPlaceText': WHATEVER THE INPUT: true; the input reads as it did. -/
def fnExactPlaceTextSpec : ChangeSpec := { name := "fnExactPlaceText", fn := fun _ => fun
  | [d] => { results := [.lit (.bool true)], args := [d] }
  | _ => none }
def fnExactPlaceTextRow : OpenClaim := { program := "ythiefficgmokgaa", sum := "3aad0a099f9902098f7daec1d0eae6e805d95dad54fa019f7f3ea20253c77f9d", func := "loop.example/settinglayers/laws.FnExactPlaceText", spec := "fnExactPlaceText", apart := false }
def FnExactPlaceTextSaid : Prop := fnExactPlaceTextRow.holds Try.pinned (OpenSpec.ofChange fnExactPlaceTextSpec)

/-- ITS FALSE NEIGHBOUR: 'it returns false'. Refute it at one input. -/
def fnExactPlaceTextWrong : ChangeSpec := { name := "fnExactPlaceText", fn := fun _ => fun
  | [d] => { results := [.lit (.bool false)], args := [d] }
  | _ => none }
def FnExactPlaceTextWrongFalsely : Prop := fnExactPlaceTextRow.holds Try.pinned (OpenSpec.ofChange fnExactPlaceTextWrong)

/-- 'laws.FnExactParsePlace': WHATEVER THE INPUT: true; the input reads as it did. -/
def fnExactParsePlaceSpec : ChangeSpec := { name := "fnExactParsePlace", fn := fun _ => fun
  | [d] => { results := [.lit (.bool true)], args := [d] }
  | _ => none }
def fnExactParsePlaceRow : OpenClaim := { program := "ythiefficgmokgaa", sum := "3aad0a099f9902098f7daec1d0eae6e805d95dad54fa019f7f3ea20253c77f9d", func := "loop.example/settinglayers/laws.FnExactParsePlace", spec := "fnExactParsePlace", inPlace := ["internal/bytealg.IndexByteString", "internal/bytealg.IndexString"], named := ["internal/bytealg.MaxLen"], apart := false }
def FnExactParsePlaceSaid : Prop := fnExactParsePlaceRow.holds Try.pinned (OpenSpec.ofChange fnExactParsePlaceSpec)

/-- ITS FALSE NEIGHBOUR: 'it returns false'. Refute it at one input. -/
def fnExactParsePlaceWrong : ChangeSpec := { name := "fnExactParsePlace", fn := fun _ => fun
  | [d] => { results := [.lit (.bool false)], args := [d] }
  | _ => none }
def FnExactParsePlaceWrongFalsely : Prop := fnExactParsePlaceRow.holds Try.pinned (OpenSpec.ofChange fnExactParsePlaceWrong)

/-- 'laws.FnPlaceText': WHATEVER THE INPUT: true; the input reads as it did. -/
def fnPlaceTextSpec : ChangeSpec := { name := "fnPlaceText", fn := fun _ => fun
  | [d] => { results := [.lit (.bool true)], args := [d] }
  | _ => none }
def fnPlaceTextRow : OpenClaim := { program := "ythiefficgmokgaa", sum := "3aad0a099f9902098f7daec1d0eae6e805d95dad54fa019f7f3ea20253c77f9d", func := "loop.example/settinglayers/laws.FnPlaceText", spec := "fnPlaceText", inPlace := ["internal/bytealg.IndexByteString", "internal/bytealg.IndexString"], named := ["internal/bytealg.MaxLen"], apart := false }
def FnPlaceTextSaid : Prop := fnPlaceTextRow.holds Try.pinned (OpenSpec.ofChange fnPlaceTextSpec)

/-- ITS FALSE NEIGHBOUR: 'it returns false'. Refute it at one input. -/
def fnPlaceTextWrong : ChangeSpec := { name := "fnPlaceText", fn := fun _ => fun
  | [d] => { results := [.lit (.bool false)], args := [d] }
  | _ => none }
def FnPlaceTextWrongFalsely : Prop := fnPlaceTextRow.holds Try.pinned (OpenSpec.ofChange fnPlaceTextWrong)

/-- 'laws.FnParsePlace': WHATEVER THE INPUT: true; the input reads as it did. -/
def fnParsePlaceSpec : ChangeSpec := { name := "fnParsePlace", fn := fun _ => fun
  | [d] => { results := [.lit (.bool true)], args := [d] }
  | _ => none }
def fnParsePlaceRow : OpenClaim := { program := "ythiefficgmokgaa", sum := "3aad0a099f9902098f7daec1d0eae6e805d95dad54fa019f7f3ea20253c77f9d", func := "loop.example/settinglayers/laws.FnParsePlace", spec := "fnParsePlace", inPlace := ["internal/bytealg.IndexByteString", "internal/bytealg.IndexString"], named := ["internal/bytealg.MaxLen"], apart := false }
def FnParsePlaceSaid : Prop := fnParsePlaceRow.holds Try.pinned (OpenSpec.ofChange fnParsePlaceSpec)

/-- ITS FALSE NEIGHBOUR: 'it returns false'. Refute it at one input. -/
def fnParsePlaceWrong : ChangeSpec := { name := "fnParsePlace", fn := fun _ => fun
  | [d] => { results := [.lit (.bool false)], args := [d] }
  | _ => none }
def FnParsePlaceWrongFalsely : Prop := fnParsePlaceRow.holds Try.pinned (OpenSpec.ofChange fnParsePlaceWrong)

/-- 'laws.FnValidName': WHATEVER THE INPUT: true; the input reads as it did. -/
def fnValidNameSpec : ChangeSpec := { name := "fnValidName", fn := fun _ => fun
  | [d] => { results := [.lit (.bool true)], args := [d] }
  | _ => none }
def fnValidNameRow : OpenClaim := { program := "ythiefficgmokgaa", sum := "3aad0a099f9902098f7daec1d0eae6e805d95dad54fa019f7f3ea20253c77f9d", func := "loop.example/settinglayers/laws.FnValidName", spec := "fnValidName", inPlace := ["internal/bytealg.IndexByteString", "internal/bytealg.IndexString"], named := ["internal/bytealg.MaxLen"], apart := false }
def FnValidNameSaid : Prop := fnValidNameRow.holds Try.pinned (OpenSpec.ofChange fnValidNameSpec)

/-- ITS FALSE NEIGHBOUR: 'it returns false'. Refute it at one input. -/
def fnValidNameWrong : ChangeSpec := { name := "fnValidName", fn := fun _ => fun
  | [d] => { results := [.lit (.bool false)], args := [d] }
  | _ => none }
def FnValidNameWrongFalsely : Prop := fnValidNameRow.holds Try.pinned (OpenSpec.ofChange fnValidNameWrong)

/- THE SECOND FORM. 'bulk': how many values and letters a reading holds, each counted each time it is reached (what is shared counts as often as it is met; a slice's spare places count too). A statement '..UptoSaid' is the law's where the arguments, and the package variables that the reading takes, are together of bulk at most 1048576: NARROWER than '..Said'. Prove '..Said' where nothing that the law and all that it calls make is longer than what came in: it says more and counts as full. Else prove '..UptoSaid'. A law counts once. -/
mutual
def uptoBulk {H : Type} : DataW H → Nat
  | .lit (.string bytes) => bytes.length + 1
  | .lit _ => 1
  | .nil => 1
  | .ptr d => uptoBulk d + 1
  | .slice elems spare => uptoBulkAll elems + uptoBulkAll spare + 1
  | .agg parts => uptoBulkAll parts + 1
  | .iface _ d => uptoBulk d + 1
  | .map entries => uptoBulkEntries entries + 1
  | .held _ => 1
def uptoBulkAll {H : Type} : List (DataW H) → Nat
  | [] => 0
  | d :: r => uptoBulk d + uptoBulkAll r
def uptoBulkEntries {H : Type} : List (Lit × DataW H) → Nat
  | [] => 0
  | x :: r => uptoBulkEntry x + uptoBulkEntries r
def uptoBulkEntry {H : Type} : Lit × DataW H → Nat
  | (.string bytes, d) => bytes.length + uptoBulk d + 1
  | (_, d) => uptoBulk d + 1
 end
def uptoSmall : (H : Type) → List (DataW H) → Bool := fun _ ds => decide (uptoBulkAll ds ≤ 1048576)
def OpenSpec.upto (s : _root_.Go.ChangeSpec) : _root_.Go.OpenSpec := { _root_.Go.OpenSpec.ofChange s with cond := some uptoSmall }

/-- 'laws.FnExactPlaceText', WHERE WHAT IT READS IS OF BULK AT MOST 1048576: true; the input reads as it did. -/
def fnExactPlaceTextUptoRow : OpenClaim := { program := "ythiefficgmokgaa", sum := "3aad0a099f9902098f7daec1d0eae6e805d95dad54fa019f7f3ea20253c77f9d", func := "loop.example/settinglayers/laws.FnExactPlaceText", spec := "fnExactPlaceText", apart := false, narrowed := true }
def FnExactPlaceTextUptoSaid : Prop := fnExactPlaceTextUptoRow.holds Try.pinned (OpenSpec.upto fnExactPlaceTextSpec)

/-- 'laws.FnExactParsePlace', WHERE WHAT IT READS IS OF BULK AT MOST 1048576: true; the input reads as it did. -/
def fnExactParsePlaceUptoRow : OpenClaim := { program := "ythiefficgmokgaa", sum := "3aad0a099f9902098f7daec1d0eae6e805d95dad54fa019f7f3ea20253c77f9d", func := "loop.example/settinglayers/laws.FnExactParsePlace", spec := "fnExactParsePlace", inPlace := ["internal/bytealg.IndexByteString", "internal/bytealg.IndexString"], named := ["internal/bytealg.MaxLen"], apart := false, narrowed := true }
def FnExactParsePlaceUptoSaid : Prop := fnExactParsePlaceUptoRow.holds Try.pinned (OpenSpec.upto fnExactParsePlaceSpec)

/-- 'laws.FnPlaceText', WHERE WHAT IT READS IS OF BULK AT MOST 1048576: true; the input reads as it did. -/
def fnPlaceTextUptoRow : OpenClaim := { program := "ythiefficgmokgaa", sum := "3aad0a099f9902098f7daec1d0eae6e805d95dad54fa019f7f3ea20253c77f9d", func := "loop.example/settinglayers/laws.FnPlaceText", spec := "fnPlaceText", inPlace := ["internal/bytealg.IndexByteString", "internal/bytealg.IndexString"], named := ["internal/bytealg.MaxLen"], apart := false, narrowed := true }
def FnPlaceTextUptoSaid : Prop := fnPlaceTextUptoRow.holds Try.pinned (OpenSpec.upto fnPlaceTextSpec)

/-- 'laws.FnParsePlace', WHERE WHAT IT READS IS OF BULK AT MOST 1048576: true; the input reads as it did. -/
def fnParsePlaceUptoRow : OpenClaim := { program := "ythiefficgmokgaa", sum := "3aad0a099f9902098f7daec1d0eae6e805d95dad54fa019f7f3ea20253c77f9d", func := "loop.example/settinglayers/laws.FnParsePlace", spec := "fnParsePlace", inPlace := ["internal/bytealg.IndexByteString", "internal/bytealg.IndexString"], named := ["internal/bytealg.MaxLen"], apart := false, narrowed := true }
def FnParsePlaceUptoSaid : Prop := fnParsePlaceUptoRow.holds Try.pinned (OpenSpec.upto fnParsePlaceSpec)

/-- 'laws.FnValidName', WHERE WHAT IT READS IS OF BULK AT MOST 1048576: true; the input reads as it did. -/
def fnValidNameUptoRow : OpenClaim := { program := "ythiefficgmokgaa", sum := "3aad0a099f9902098f7daec1d0eae6e805d95dad54fa019f7f3ea20253c77f9d", func := "loop.example/settinglayers/laws.FnValidName", spec := "fnValidName", inPlace := ["internal/bytealg.IndexByteString", "internal/bytealg.IndexString"], named := ["internal/bytealg.MaxLen"], apart := false, narrowed := true }
def FnValidNameUptoSaid : Prop := fnValidNameUptoRow.holds Try.pinned (OpenSpec.upto fnValidNameSpec)

end Rows
end Go.Proofs.Ythiefficgmokgaa
