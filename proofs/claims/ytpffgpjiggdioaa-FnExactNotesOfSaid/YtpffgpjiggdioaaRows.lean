/-
  No cell of these rows narrows 'for every input' (looked for: loops, veiled, ifaces, maps, wideKeys, modest, calm, conditions, laid).
  DERIVED. THE GIVEN ROWS OF THIS SEAT. 10 by the template 'for every input the law returns true; each argument reads behind the call as it read before'; 0 by the template 'total and deterministic' (their statements: YtpffgpjiggdioaaTotals.lean).
  GIVEN WITH THE SEED: the statements are not yours to turn. If you find one false, say at which input.
  Laid BY PROGRAM, IN A SANDBOX (cutbox-rows.mjs): the forced cells as the released guide's own fill.sh prints them over the translation ecb7059e41b400e7… (all of the seat's roots in one cut). By AI agents, Wed Nov 11 2026. No macro, syntax, notation, axiom, sorry.
-/
import Derived.Test.YtpffgpjiggdioaaChecked
import GoSem.Claim
import GoSem.ClaimJoined
import GoSem.ClaimMapViews
import Derived.JoinedTies
import Derived.KernelRfl
namespace Go.Proofs.Ytpffgpjiggdioaa
/- THE CELL 'sum', in the pinned program and in every row, IS THE sha256 OF THE DUMP (.gsa) THAT YtpffgpjiggdioaaProg.lean LOADS. Nothing in Lean hashes anything: it is a label: what it is worth is what the hold of that sum in a sandbox is worth. -/
noncomputable def Try.pinned : Pinned := { name := "ytpffgpjiggdioaa", sum := "ecb7059e41b400e7a76cb8f449b6c9506d330606b79cdbd4490c953f530398d1", checked := Try.checked }
namespace Rows
def none {H : Type} : Left H := { results := [], args := [] }

/-- 'laws.FnExactValidName': WHATEVER THE INPUT: true; the input reads as it did. -/
def fnExactValidNameSpec : ChangeSpec := { name := "fnExactValidName", fn := fun _ => fun
  | [d] => { results := [.lit (.bool true)], args := [d] }
  | _ => none }
def fnExactValidNameRow : OpenClaim := { program := "ytpffgpjiggdioaa", sum := "ecb7059e41b400e7a76cb8f449b6c9506d330606b79cdbd4490c953f530398d1", func := "loop.example/settinglayers/laws.FnExactValidName", spec := "fnExactValidName", apart := false }
def FnExactValidNameSaid : Prop := fnExactValidNameRow.holds Try.pinned (OpenSpec.ofChange fnExactValidNameSpec)

/-- ITS FALSE NEIGHBOUR: 'it returns false'. Refute it at one input. -/
def fnExactValidNameWrong : ChangeSpec := { name := "fnExactValidName", fn := fun _ => fun
  | [d] => { results := [.lit (.bool false)], args := [d] }
  | _ => none }
def FnExactValidNameWrongFalsely : Prop := fnExactValidNameRow.holds Try.pinned (OpenSpec.ofChange fnExactValidNameWrong)

/-- 'laws.FnExactValidFile': WHATEVER THE INPUT: true; the input reads as it did. -/
def fnExactValidFileSpec : ChangeSpec := { name := "fnExactValidFile", fn := fun _ => fun
  | [d] => { results := [.lit (.bool true)], args := [d] }
  | _ => none }
def fnExactValidFileRow : OpenClaim := { program := "ytpffgpjiggdioaa", sum := "ecb7059e41b400e7a76cb8f449b6c9506d330606b79cdbd4490c953f530398d1", func := "loop.example/settinglayers/laws.FnExactValidFile", spec := "fnExactValidFile", unfollowed := true, recurses := true, apart := false }
def FnExactValidFileSaid : Prop := fnExactValidFileRow.holds Try.pinned (OpenSpec.ofChange fnExactValidFileSpec)

/-- ITS FALSE NEIGHBOUR: 'it returns false'. Refute it at one input. -/
def fnExactValidFileWrong : ChangeSpec := { name := "fnExactValidFile", fn := fun _ => fun
  | [d] => { results := [.lit (.bool false)], args := [d] }
  | _ => none }
def FnExactValidFileWrongFalsely : Prop := fnExactValidFileRow.holds Try.pinned (OpenSpec.ofChange fnExactValidFileWrong)

/-- 'laws.FnExactFileText': WHATEVER THE INPUT: true; the input reads as it did. -/
def fnExactFileTextSpec : ChangeSpec := { name := "fnExactFileText", fn := fun _ => fun
  | [d] => { results := [.lit (.bool true)], args := [d] }
  | _ => none }
def fnExactFileTextRow : OpenClaim := { program := "ytpffgpjiggdioaa", sum := "ecb7059e41b400e7a76cb8f449b6c9506d330606b79cdbd4490c953f530398d1", func := "loop.example/settinglayers/laws.FnExactFileText", spec := "fnExactFileText", unfollowed := true, recurses := true, apart := false }
def FnExactFileTextSaid : Prop := fnExactFileTextRow.holds Try.pinned (OpenSpec.ofChange fnExactFileTextSpec)

/-- ITS FALSE NEIGHBOUR: 'it returns false'. Refute it at one input. -/
def fnExactFileTextWrong : ChangeSpec := { name := "fnExactFileText", fn := fun _ => fun
  | [d] => { results := [.lit (.bool false)], args := [d] }
  | _ => none }
def FnExactFileTextWrongFalsely : Prop := fnExactFileTextRow.holds Try.pinned (OpenSpec.ofChange fnExactFileTextWrong)

/-- 'laws.FnExactSectionsOf': WHATEVER THE INPUT: true; the input reads as it did. -/
def fnExactSectionsOfSpec : ChangeSpec := { name := "fnExactSectionsOf", fn := fun _ => fun
  | [d] => { results := [.lit (.bool true)], args := [d] }
  | _ => none }
def fnExactSectionsOfRow : OpenClaim := { program := "ytpffgpjiggdioaa", sum := "ecb7059e41b400e7a76cb8f449b6c9506d330606b79cdbd4490c953f530398d1", func := "loop.example/settinglayers/laws.FnExactSectionsOf", spec := "fnExactSectionsOf", unfollowed := true, recurses := true, apart := false }
def FnExactSectionsOfSaid : Prop := fnExactSectionsOfRow.holds Try.pinned (OpenSpec.ofChange fnExactSectionsOfSpec)

/-- ITS FALSE NEIGHBOUR: 'it returns false'. Refute it at one input. -/
def fnExactSectionsOfWrong : ChangeSpec := { name := "fnExactSectionsOf", fn := fun _ => fun
  | [d] => { results := [.lit (.bool false)], args := [d] }
  | _ => none }
def FnExactSectionsOfWrongFalsely : Prop := fnExactSectionsOfRow.holds Try.pinned (OpenSpec.ofChange fnExactSectionsOfWrong)

/-- 'laws.FnExactKeysOf': WHATEVER THE INPUT: true; the input reads as it did. -/
def fnExactKeysOfSpec : ChangeSpec := { name := "fnExactKeysOf", fn := fun _ => fun
  | [d1, d2] => { results := [.lit (.bool true)], args := [d1, d2] }
  | _ => none }
def fnExactKeysOfRow : OpenClaim := { program := "ytpffgpjiggdioaa", sum := "ecb7059e41b400e7a76cb8f449b6c9506d330606b79cdbd4490c953f530398d1", func := "loop.example/settinglayers/laws.FnExactKeysOf", spec := "fnExactKeysOf", unfollowed := true, recurses := true, apart := false }
def FnExactKeysOfSaid : Prop := fnExactKeysOfRow.holds Try.pinned (OpenSpec.ofChange fnExactKeysOfSpec)

/-- ITS FALSE NEIGHBOUR: 'it returns false'. Refute it at one input. -/
def fnExactKeysOfWrong : ChangeSpec := { name := "fnExactKeysOf", fn := fun _ => fun
  | [d1, d2] => { results := [.lit (.bool false)], args := [d1, d2] }
  | _ => none }
def FnExactKeysOfWrongFalsely : Prop := fnExactKeysOfRow.holds Try.pinned (OpenSpec.ofChange fnExactKeysOfWrong)

/-- 'laws.FnExactGetValue': WHATEVER THE INPUT: true; the input reads as it did. -/
def fnExactGetValueSpec : ChangeSpec := { name := "fnExactGetValue", fn := fun _ => fun
  | [d1, d2, d3] => { results := [.lit (.bool true)], args := [d1, d2, d3] }
  | _ => none }
def fnExactGetValueRow : OpenClaim := { program := "ytpffgpjiggdioaa", sum := "ecb7059e41b400e7a76cb8f449b6c9506d330606b79cdbd4490c953f530398d1", func := "loop.example/settinglayers/laws.FnExactGetValue", spec := "fnExactGetValue", unfollowed := true, recurses := true, apart := false }
def FnExactGetValueSaid : Prop := fnExactGetValueRow.holds Try.pinned (OpenSpec.ofChange fnExactGetValueSpec)

/-- ITS FALSE NEIGHBOUR: 'it returns false'. Refute it at one input. -/
def fnExactGetValueWrong : ChangeSpec := { name := "fnExactGetValue", fn := fun _ => fun
  | [d1, d2, d3] => { results := [.lit (.bool false)], args := [d1, d2, d3] }
  | _ => none }
def FnExactGetValueWrongFalsely : Prop := fnExactGetValueRow.holds Try.pinned (OpenSpec.ofChange fnExactGetValueWrong)

/-- 'laws.FnExactTidyFile': WHATEVER THE INPUT: true; the input reads as it did. -/
def fnExactTidyFileSpec : ChangeSpec := { name := "fnExactTidyFile", fn := fun _ => fun
  | [d] => { results := [.lit (.bool true)], args := [d] }
  | _ => none }
def fnExactTidyFileRow : OpenClaim := { program := "ytpffgpjiggdioaa", sum := "ecb7059e41b400e7a76cb8f449b6c9506d330606b79cdbd4490c953f530398d1", func := "loop.example/settinglayers/laws.FnExactTidyFile", spec := "fnExactTidyFile", unfollowed := true, recurses := true, apart := false }
def FnExactTidyFileSaid : Prop := fnExactTidyFileRow.holds Try.pinned (OpenSpec.ofChange fnExactTidyFileSpec)

/-- ITS FALSE NEIGHBOUR: 'it returns false'. Refute it at one input. -/
def fnExactTidyFileWrong : ChangeSpec := { name := "fnExactTidyFile", fn := fun _ => fun
  | [d] => { results := [.lit (.bool false)], args := [d] }
  | _ => none }
def FnExactTidyFileWrongFalsely : Prop := fnExactTidyFileRow.holds Try.pinned (OpenSpec.ofChange fnExactTidyFileWrong)

/-- 'laws.FnExactWhereIs': WHATEVER THE INPUT: true; the input reads as it did. -/
def fnExactWhereIsSpec : ChangeSpec := { name := "fnExactWhereIs", fn := fun _ => fun
  | [d1, d2, d3] => { results := [.lit (.bool true)], args := [d1, d2, d3] }
  | _ => none }
def fnExactWhereIsRow : OpenClaim := { program := "ytpffgpjiggdioaa", sum := "ecb7059e41b400e7a76cb8f449b6c9506d330606b79cdbd4490c953f530398d1", func := "loop.example/settinglayers/laws.FnExactWhereIs", spec := "fnExactWhereIs", unfollowed := true, recurses := true, apart := false }
def FnExactWhereIsSaid : Prop := fnExactWhereIsRow.holds Try.pinned (OpenSpec.ofChange fnExactWhereIsSpec)

/-- ITS FALSE NEIGHBOUR: 'it returns false'. Refute it at one input. -/
def fnExactWhereIsWrong : ChangeSpec := { name := "fnExactWhereIs", fn := fun _ => fun
  | [d1, d2, d3] => { results := [.lit (.bool false)], args := [d1, d2, d3] }
  | _ => none }
def FnExactWhereIsWrongFalsely : Prop := fnExactWhereIsRow.holds Try.pinned (OpenSpec.ofChange fnExactWhereIsWrong)

/-- 'laws.FnExactNotesOf': WHATEVER THE INPUT: true; the input reads as it did. -/
def fnExactNotesOfSpec : ChangeSpec := { name := "fnExactNotesOf", fn := fun _ => fun
  | [d1, d2, d3] => { results := [.lit (.bool true)], args := [d1, d2, d3] }
  | _ => none }
def fnExactNotesOfRow : OpenClaim := { program := "ytpffgpjiggdioaa", sum := "ecb7059e41b400e7a76cb8f449b6c9506d330606b79cdbd4490c953f530398d1", func := "loop.example/settinglayers/laws.FnExactNotesOf", spec := "fnExactNotesOf", unfollowed := true, recurses := true, apart := false }
def FnExactNotesOfSaid : Prop := fnExactNotesOfRow.holds Try.pinned (OpenSpec.ofChange fnExactNotesOfSpec)

/-- ITS FALSE NEIGHBOUR: 'it returns false'. Refute it at one input. -/
def fnExactNotesOfWrong : ChangeSpec := { name := "fnExactNotesOf", fn := fun _ => fun
  | [d1, d2, d3] => { results := [.lit (.bool false)], args := [d1, d2, d3] }
  | _ => none }
def FnExactNotesOfWrongFalsely : Prop := fnExactNotesOfRow.holds Try.pinned (OpenSpec.ofChange fnExactNotesOfWrong)

/-- 'laws.FnExactSameMeaning': WHATEVER THE INPUT: true; the input reads as it did. -/
def fnExactSameMeaningSpec : ChangeSpec := { name := "fnExactSameMeaning", fn := fun _ => fun
  | [d1, d2] => { results := [.lit (.bool true)], args := [d1, d2] }
  | _ => none }
def fnExactSameMeaningRow : OpenClaim := { program := "ytpffgpjiggdioaa", sum := "ecb7059e41b400e7a76cb8f449b6c9506d330606b79cdbd4490c953f530398d1", func := "loop.example/settinglayers/laws.FnExactSameMeaning", spec := "fnExactSameMeaning", unfollowed := true, recurses := true, apart := false }
def FnExactSameMeaningSaid : Prop := fnExactSameMeaningRow.holds Try.pinned (OpenSpec.ofChange fnExactSameMeaningSpec)

/-- ITS FALSE NEIGHBOUR: 'it returns false'. Refute it at one input. -/
def fnExactSameMeaningWrong : ChangeSpec := { name := "fnExactSameMeaning", fn := fun _ => fun
  | [d1, d2] => { results := [.lit (.bool false)], args := [d1, d2] }
  | _ => none }
def FnExactSameMeaningWrongFalsely : Prop := fnExactSameMeaningRow.holds Try.pinned (OpenSpec.ofChange fnExactSameMeaningWrong)

/- THE SECOND FORM. 'bulk': how many values and letters a reading holds, each counted each time it is reached (what is shared counts as often as it is met; a slice's spare places count too). A statement '..UptoSaid' is the law's where the arguments, and the package variables that the reading takes, are together of bulk at most 1048576: NARROWER than '..Said'. Prove '..Said' where nothing that the law and all that it calls make is longer than what came in: it says more and counts as full. Else prove '..UptoSaid'. A law counts once. -/
mutual
def uptoBulk {H : Type} : DataW H → Nat
  | .lit (.string bytes) => bytes.length + 1
  | .lit _ => 1
  | .nil => 1
  | .ptr d => uptoBulk d + 1
  | .slice elems spare => uptoBulkAll elems + uptoBulkAll spare + 1
  | .agg parts => uptoBulkAll parts + 1
  | .iface _ d => uptoBulk d + 1
  | .map entries => uptoBulkEntries entries + 1
  | .held _ => 1
def uptoBulkAll {H : Type} : List (DataW H) → Nat
  | [] => 0
  | d :: r => uptoBulk d + uptoBulkAll r
def uptoBulkEntries {H : Type} : List (Lit × DataW H) → Nat
  | [] => 0
  | x :: r => uptoBulkEntry x + uptoBulkEntries r
def uptoBulkEntry {H : Type} : Lit × DataW H → Nat
  | (.string bytes, d) => bytes.length + uptoBulk d + 1
  | (_, d) => uptoBulk d + 1
 end
def uptoSmall : (H : Type) → List (DataW H) → Bool := fun _ ds => decide (uptoBulkAll ds ≤ 1048576)
def OpenSpec.upto (s : _root_.Go.ChangeSpec) : _root_.Go.OpenSpec := { _root_.Go.OpenSpec.ofChange s with cond := some uptoSmall }

/-- 'laws.FnExactValidName', WHERE WHAT IT READS IS OF BULK AT MOST 1048576: true; the input reads as it did. -/
def fnExactValidNameUptoRow : OpenClaim := { program := "ytpffgpjiggdioaa", sum := "ecb7059e41b400e7a76cb8f449b6c9506d330606b79cdbd4490c953f530398d1", func := "loop.example/settinglayers/laws.FnExactValidName", spec := "fnExactValidName", apart := false, narrowed := true }
def FnExactValidNameUptoSaid : Prop := fnExactValidNameUptoRow.holds Try.pinned (OpenSpec.upto fnExactValidNameSpec)

/-- 'laws.FnExactValidFile', WHERE WHAT IT READS IS OF BULK AT MOST 1048576: true; the input reads as it did. -/
def fnExactValidFileUptoRow : OpenClaim := { program := "ytpffgpjiggdioaa", sum := "ecb7059e41b400e7a76cb8f449b6c9506d330606b79cdbd4490c953f530398d1", func := "loop.example/settinglayers/laws.FnExactValidFile", spec := "fnExactValidFile", unfollowed := true, recurses := true, apart := false, narrowed := true }
def FnExactValidFileUptoSaid : Prop := fnExactValidFileUptoRow.holds Try.pinned (OpenSpec.upto fnExactValidFileSpec)

/-- 'laws.FnExactFileText', WHERE WHAT IT READS IS OF BULK AT MOST 1048576: true; the input reads as it did. -/
def fnExactFileTextUptoRow : OpenClaim := { program := "ytpffgpjiggdioaa", sum := "ecb7059e41b400e7a76cb8f449b6c9506d330606b79cdbd4490c953f530398d1", func := "loop.example/settinglayers/laws.FnExactFileText", spec := "fnExactFileText", unfollowed := true, recurses := true, apart := false, narrowed := true }
def FnExactFileTextUptoSaid : Prop := fnExactFileTextUptoRow.holds Try.pinned (OpenSpec.upto fnExactFileTextSpec)

/-- 'laws.FnExactSectionsOf', WHERE WHAT IT READS IS OF BULK AT MOST 1048576: true; the input reads as it did. -/
def fnExactSectionsOfUptoRow : OpenClaim := { program := "ytpffgpjiggdioaa", sum := "ecb7059e41b400e7a76cb8f449b6c9506d330606b79cdbd4490c953f530398d1", func := "loop.example/settinglayers/laws.FnExactSectionsOf", spec := "fnExactSectionsOf", unfollowed := true, recurses := true, apart := false, narrowed := true }
def FnExactSectionsOfUptoSaid : Prop := fnExactSectionsOfUptoRow.holds Try.pinned (OpenSpec.upto fnExactSectionsOfSpec)

/-- 'laws.FnExactKeysOf', WHERE WHAT IT READS IS OF BULK AT MOST 1048576: true; the input reads as it did. -/
def fnExactKeysOfUptoRow : OpenClaim := { program := "ytpffgpjiggdioaa", sum := "ecb7059e41b400e7a76cb8f449b6c9506d330606b79cdbd4490c953f530398d1", func := "loop.example/settinglayers/laws.FnExactKeysOf", spec := "fnExactKeysOf", unfollowed := true, recurses := true, apart := false, narrowed := true }
def FnExactKeysOfUptoSaid : Prop := fnExactKeysOfUptoRow.holds Try.pinned (OpenSpec.upto fnExactKeysOfSpec)

/-- 'laws.FnExactGetValue', WHERE WHAT IT READS IS OF BULK AT MOST 1048576: true; the input reads as it did. -/
def fnExactGetValueUptoRow : OpenClaim := { program := "ytpffgpjiggdioaa", sum := "ecb7059e41b400e7a76cb8f449b6c9506d330606b79cdbd4490c953f530398d1", func := "loop.example/settinglayers/laws.FnExactGetValue", spec := "fnExactGetValue", unfollowed := true, recurses := true, apart := false, narrowed := true }
def FnExactGetValueUptoSaid : Prop := fnExactGetValueUptoRow.holds Try.pinned (OpenSpec.upto fnExactGetValueSpec)

/-- 'laws.FnExactTidyFile', WHERE WHAT IT READS IS OF BULK AT MOST 1048576: true; the input reads as it did. -/
def fnExactTidyFileUptoRow : OpenClaim := { program := "ytpffgpjiggdioaa", sum := "ecb7059e41b400e7a76cb8f449b6c9506d330606b79cdbd4490c953f530398d1", func := "loop.example/settinglayers/laws.FnExactTidyFile", spec := "fnExactTidyFile", unfollowed := true, recurses := true, apart := false, narrowed := true }
def FnExactTidyFileUptoSaid : Prop := fnExactTidyFileUptoRow.holds Try.pinned (OpenSpec.upto fnExactTidyFileSpec)

/-- 'laws.FnExactWhereIs', WHERE WHAT IT READS IS OF BULK AT MOST 1048576: true; the input reads as it did. -/
def fnExactWhereIsUptoRow : OpenClaim := { program := "ytpffgpjiggdioaa", sum := "ecb7059e41b400e7a76cb8f449b6c9506d330606b79cdbd4490c953f530398d1", func := "loop.example/settinglayers/laws.FnExactWhereIs", spec := "fnExactWhereIs", unfollowed := true, recurses := true, apart := false, narrowed := true }
def FnExactWhereIsUptoSaid : Prop := fnExactWhereIsUptoRow.holds Try.pinned (OpenSpec.upto fnExactWhereIsSpec)

/-- 'laws.FnExactNotesOf', WHERE WHAT IT READS IS OF BULK AT MOST 1048576: true; the input reads as it did. -/
def fnExactNotesOfUptoRow : OpenClaim := { program := "ytpffgpjiggdioaa", sum := "ecb7059e41b400e7a76cb8f449b6c9506d330606b79cdbd4490c953f530398d1", func := "loop.example/settinglayers/laws.FnExactNotesOf", spec := "fnExactNotesOf", unfollowed := true, recurses := true, apart := false, narrowed := true }
def FnExactNotesOfUptoSaid : Prop := fnExactNotesOfUptoRow.holds Try.pinned (OpenSpec.upto fnExactNotesOfSpec)

/-- 'laws.FnExactSameMeaning', WHERE WHAT IT READS IS OF BULK AT MOST 1048576: true; the input reads as it did. -/
def fnExactSameMeaningUptoRow : OpenClaim := { program := "ytpffgpjiggdioaa", sum := "ecb7059e41b400e7a76cb8f449b6c9506d330606b79cdbd4490c953f530398d1", func := "loop.example/settinglayers/laws.FnExactSameMeaning", spec := "fnExactSameMeaning", unfollowed := true, recurses := true, apart := false, narrowed := true }
def FnExactSameMeaningUptoSaid : Prop := fnExactSameMeaningUptoRow.holds Try.pinned (OpenSpec.upto fnExactSameMeaningSpec)

end Rows
end Go.Proofs.Ytpffgpjiggdioaa
