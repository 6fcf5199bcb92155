/-
  DERIVED. GIVEN WITH THE SEED: THE CARDS: each row of YtpffgpjiggdioaaDoorRows.lean that lists a variable, with what it lists TIED to the program's text (the seventh form; the later family's looks); each row that meets fmt, with fmt's text TOLD by the authors' own Lean function (tested against real Go, not proved from fmt's source: count such statements apart). THE CARD IS WHAT COUNTS. Prove the row's statement (the work); the ties are given (YtpffgpjiggdioaaDoorTie.lean); close each card by the builder's one call (the guide's Derived/Test/ToyasCard.lean, 'card_holds'). Laid BY PROGRAM, IN A SANDBOX (cutbox-door.mjs). By AI agents, Wed Nov 11 2026. No macro, syntax, notation, axiom, sorry.
-/
import Derived.Test.YtpffgpjiggdioaaDoorRows
import GoSem.ClaimSeven
namespace Go.Proofs.YtpffgpjiggdioaaDoor
namespace Rows

/-- THE TIED CARD OF 'laws.FnExactValidValue'. -/
def fnExactValidValueCard : Claim7 := { stood := { row := fnExactValidValueRow, standIns := [], harness := (true, "e4dce98c31e9b91ef96dcfe7046e1e8b47b4bb5686af5b081c37fe3468b1ef38"), looks := false }, kinds := [], alts := [], laidByText := true, laidKinds := [.data, .pinned], laidTests := true, laidLooks := .later }
def FnExactValidValueCardSaid : Prop := Claim7.holds Tryd.pinned (.plain (OpenSpec.ofChange fnExactValidValueSpec)) fnExactValidValueCard

/-- THE TIED CARD OF 'laws.FnExactParseFile'. -/
def fnExactParseFileCard : Claim7 := { stood := { row := fnExactParseFileRow, standIns := [], harness := (true, "e4dce98c31e9b91ef96dcfe7046e1e8b47b4bb5686af5b081c37fe3468b1ef38"), looks := false }, kinds := [], alts := [], laidByText := true, laidKinds := [.data, .pinned], laidTests := true, laidLooks := .later }
def FnExactParseFileCardSaid : Prop := Claim7.holds Tryd.pinned (.plain (OpenSpec.ofChange fnExactParseFileSpec)) fnExactParseFileCard

/-- THE SECOND FORM's CARD OF 'laws.FnExactValidValue'. -/
def fnExactValidValueUptoCard : Claim7 := { stood := { row := fnExactValidValueUptoRow, standIns := [], harness := (true, "e4dce98c31e9b91ef96dcfe7046e1e8b47b4bb5686af5b081c37fe3468b1ef38"), looks := false }, kinds := [], alts := [], laidByText := true, laidKinds := [.data, .pinned], laidTests := true, laidLooks := .later }
def FnExactValidValueUptoCardSaid : Prop := Claim7.holds Tryd.pinned (.plain (OpenSpec.upto fnExactValidValueSpec)) fnExactValidValueUptoCard

/-- THE SECOND FORM's CARD OF 'laws.FnExactParseFile'. -/
def fnExactParseFileUptoCard : Claim7 := { stood := { row := fnExactParseFileUptoRow, standIns := [], harness := (true, "e4dce98c31e9b91ef96dcfe7046e1e8b47b4bb5686af5b081c37fe3468b1ef38"), looks := false }, kinds := [], alts := [], laidByText := true, laidKinds := [.data, .pinned], laidTests := true, laidLooks := .later }
def FnExactParseFileUptoCardSaid : Prop := Claim7.holds Tryd.pinned (.plain (OpenSpec.upto fnExactParseFileSpec)) fnExactParseFileUptoCard
end Rows
end Go.Proofs.YtpffgpjiggdioaaDoor
