/-
  DERIVED. GIVEN WITH THE SEED: THE CARDS: each row of YthiefficgmokgaaDoorRows.lean that lists a variable, with what it lists TIED to the program's text (the seventh form; the later family's looks); each row that meets fmt, with fmt's text TOLD by the authors' own Lean function (tested against real Go, not proved from fmt's source: count such statements apart). THE CARD IS WHAT COUNTS. Prove the row's statement (the work); the ties are given (YthiefficgmokgaaDoorTie.lean); close each card by the builder's one call (the guide's Derived/Test/ToyasCard.lean, 'card_holds'). Laid BY PROGRAM, IN A SANDBOX (cutbox-door.mjs). By AI agents, Wed Nov 11 2026. No macro, syntax, notation, axiom, sorry.
-/
import Derived.Test.YthiefficgmokgaaDoorRows
import GoSem.ClaimSeven
namespace Go.Proofs.YthiefficgmokgaaDoor
namespace Rows

/-- THE TIED CARD OF 'laws.FnExactEditText'. -/
def fnExactEditTextCard : Claim7 := { stood := { row := fnExactEditTextRow, standIns := [], harness := (true, "092b2d282a196149a04499708044041fd7b09f783aedb297f06d29cadbfa1875"), looks := false }, kinds := [], alts := [], laidByText := true, laidKinds := [.data, .pinned], laidTests := true, laidLooks := .later }
def FnExactEditTextCardSaid : Prop := Claim7.holds Tryd.pinned (.plain (OpenSpec.ofChange fnExactEditTextSpec)) fnExactEditTextCard

/-- THE TIED CARD OF 'laws.FnExactParseEdit'. -/
def fnExactParseEditCard : Claim7 := { stood := { row := fnExactParseEditRow, standIns := [], harness := (true, "092b2d282a196149a04499708044041fd7b09f783aedb297f06d29cadbfa1875"), looks := false }, kinds := [], alts := [], laidByText := true, laidKinds := [.data, .pinned], laidTests := true, laidLooks := .later }
def FnExactParseEditCardSaid : Prop := Claim7.holds Tryd.pinned (.plain (OpenSpec.ofChange fnExactParseEditSpec)) fnExactParseEditCard

/-- THE TIED CARD OF 'laws.FnEditText'. -/
def fnEditTextCard : Claim7 := { stood := { row := fnEditTextRow, standIns := [], harness := (true, "092b2d282a196149a04499708044041fd7b09f783aedb297f06d29cadbfa1875"), looks := false }, kinds := [], alts := [], laidByText := true, laidKinds := [.data, .pinned], laidTests := true, laidLooks := .later }
def FnEditTextCardSaid : Prop := Claim7.holds Tryd.pinned (.plain (OpenSpec.ofChange fnEditTextSpec)) fnEditTextCard

/-- THE TIED CARD OF 'laws.FnParseEdit'. -/
def fnParseEditCard : Claim7 := { stood := { row := fnParseEditRow, standIns := [], harness := (true, "092b2d282a196149a04499708044041fd7b09f783aedb297f06d29cadbfa1875"), looks := false }, kinds := [], alts := [], laidByText := true, laidKinds := [.data, .pinned], laidTests := true, laidLooks := .later }
def FnParseEditCardSaid : Prop := Claim7.holds Tryd.pinned (.plain (OpenSpec.ofChange fnParseEditSpec)) fnParseEditCard

/-- THE SECOND FORM's CARD OF 'laws.FnExactEditText'. -/
def fnExactEditTextUptoCard : Claim7 := { stood := { row := fnExactEditTextUptoRow, standIns := [], harness := (true, "092b2d282a196149a04499708044041fd7b09f783aedb297f06d29cadbfa1875"), looks := false }, kinds := [], alts := [], laidByText := true, laidKinds := [.data, .pinned], laidTests := true, laidLooks := .later }
def FnExactEditTextUptoCardSaid : Prop := Claim7.holds Tryd.pinned (.plain (OpenSpec.upto fnExactEditTextSpec)) fnExactEditTextUptoCard

/-- THE SECOND FORM's CARD OF 'laws.FnExactParseEdit'. -/
def fnExactParseEditUptoCard : Claim7 := { stood := { row := fnExactParseEditUptoRow, standIns := [], harness := (true, "092b2d282a196149a04499708044041fd7b09f783aedb297f06d29cadbfa1875"), looks := false }, kinds := [], alts := [], laidByText := true, laidKinds := [.data, .pinned], laidTests := true, laidLooks := .later }
def FnExactParseEditUptoCardSaid : Prop := Claim7.holds Tryd.pinned (.plain (OpenSpec.upto fnExactParseEditSpec)) fnExactParseEditUptoCard

/-- THE SECOND FORM's CARD OF 'laws.FnEditText'. -/
def fnEditTextUptoCard : Claim7 := { stood := { row := fnEditTextUptoRow, standIns := [], harness := (true, "092b2d282a196149a04499708044041fd7b09f783aedb297f06d29cadbfa1875"), looks := false }, kinds := [], alts := [], laidByText := true, laidKinds := [.data, .pinned], laidTests := true, laidLooks := .later }
def FnEditTextUptoCardSaid : Prop := Claim7.holds Tryd.pinned (.plain (OpenSpec.upto fnEditTextSpec)) fnEditTextUptoCard

/-- THE SECOND FORM's CARD OF 'laws.FnParseEdit'. -/
def fnParseEditUptoCard : Claim7 := { stood := { row := fnParseEditUptoRow, standIns := [], harness := (true, "092b2d282a196149a04499708044041fd7b09f783aedb297f06d29cadbfa1875"), looks := false }, kinds := [], alts := [], laidByText := true, laidKinds := [.data, .pinned], laidTests := true, laidLooks := .later }
def FnParseEditUptoCardSaid : Prop := Claim7.holds Tryd.pinned (.plain (OpenSpec.upto fnParseEditSpec)) fnParseEditUptoCard
end Rows
end Go.Proofs.YthiefficgmokgaaDoor
