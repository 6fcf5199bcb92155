/-
  DERIVED. GIVEN WITH THE SEED: THE CARDS: each row of YtkjoolmhcfajnaaDoorRows.lean that lists a variable, with what it lists TIED to the program's text (the seventh form; the later family's looks); each row that meets fmt, with fmt's text TOLD by the authors' own Lean function (tested against real Go, not proved from fmt's source: count such statements apart). THE CARD IS WHAT COUNTS. Prove the row's statement (the work); the ties are given (YtkjoolmhcfajnaaDoorTie.lean); close each card by the builder's one call (the guide's Derived/Test/ToyasCard.lean, 'card_holds'). Laid BY PROGRAM, IN A SANDBOX (cutbox-door.mjs). By AI agents, Wed Nov 11 2026. No macro, syntax, notation, axiom, sorry.
-/
import Derived.Test.YtkjoolmhcfajnaaDoorRows
import GoSem.ClaimSeven
namespace Go.Proofs.YtkjoolmhcfajnaaDoor
namespace Rows

/-- THE TIED CARD OF 'laws.FnPatchLayersFew'. -/
def fnPatchLayersFewCard : Claim7 := { stood := { row := fnPatchLayersFewRow, standIns := [], harness := (true, "3ed2e9509264139f346558fd4ddcbfc1b6653fbb6d2268f3ce6ce61388a90b36"), looks := false }, kinds := [], alts := [], laidByText := true, laidKinds := [.data, .pinned], laidTests := true, laidLooks := .later }
def FnPatchLayersFewCardSaid : Prop := Claim7.holds Tryd.pinned (.plain (OpenSpec.ofChange fnPatchLayersFewSpec)) fnPatchLayersFewCard

/-- THE SECOND FORM's CARD OF 'laws.FnPatchLayersFew'. -/
def fnPatchLayersFewUptoCard : Claim7 := { stood := { row := fnPatchLayersFewUptoRow, standIns := [], harness := (true, "3ed2e9509264139f346558fd4ddcbfc1b6653fbb6d2268f3ce6ce61388a90b36"), looks := false }, kinds := [], alts := [], laidByText := true, laidKinds := [.data, .pinned], laidTests := true, laidLooks := .later }
def FnPatchLayersFewUptoCardSaid : Prop := Claim7.holds Tryd.pinned (.plain (OpenSpec.upto fnPatchLayersFewSpec)) fnPatchLayersFewUptoCard
end Rows
end Go.Proofs.YtkjoolmhcfajnaaDoor
