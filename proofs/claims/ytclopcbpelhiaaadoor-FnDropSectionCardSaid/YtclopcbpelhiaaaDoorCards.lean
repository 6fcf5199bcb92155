/-
  DERIVED. GIVEN WITH THE SEED: THE CARDS: each row of YtclopcbpelhiaaaDoorRows.lean that lists a variable, with what it lists TIED to the program's text (the seventh form; the later family's looks); each row that meets fmt, with fmt's text TOLD by the authors' own Lean function (tested against real Go, not proved from fmt's source: count such statements apart). THE CARD IS WHAT COUNTS. Prove the row's statement (the work); the ties are given (YtclopcbpelhiaaaDoorTie.lean); close each card by the builder's one call (the guide's Derived/Test/ToyasCard.lean, 'card_holds'). Laid BY PROGRAM, IN A SANDBOX (cutbox-door.mjs). By AI agents, Wed Nov 11 2026. No macro, syntax, notation, axiom, sorry.
-/
import Derived.Test.YtclopcbpelhiaaaDoorRows
import GoSem.ClaimSeven
namespace Go.Proofs.YtclopcbpelhiaaaDoor
namespace Rows

/-- THE TIED CARD OF 'laws.FnDropKey'. -/
def fnDropKeyCard : Claim7 := { stood := { row := fnDropKeyRow, standIns := [], harness := (true, "b64bc98c7585ce0100fd370943567b9549d47aa65229d75fd78072ae860e2701"), looks := true }, kinds := [], alts := [], laidByText := true, laidKinds := [.data, .pinned], laidTests := true, laidLooks := .later }
def FnDropKeyCardSaid : Prop := Claim7.holds Tryd.pinned (.plain (OpenSpec.ofChange fnDropKeySpec)) fnDropKeyCard

/-- THE TIED CARD OF 'laws.FnDropSection'. -/
def fnDropSectionCard : Claim7 := { stood := { row := fnDropSectionRow, standIns := [], harness := (true, "b64bc98c7585ce0100fd370943567b9549d47aa65229d75fd78072ae860e2701"), looks := true }, kinds := [], alts := [], laidByText := true, laidKinds := [.data, .pinned], laidTests := true, laidLooks := .later }
def FnDropSectionCardSaid : Prop := Claim7.holds Tryd.pinned (.plain (OpenSpec.ofChange fnDropSectionSpec)) fnDropSectionCard

/-- THE TIED CARD OF 'laws.FnValidValue'. -/
def fnValidValueCard : Claim7 := { stood := { row := fnValidValueRow, standIns := [], harness := (true, "b64bc98c7585ce0100fd370943567b9549d47aa65229d75fd78072ae860e2701"), looks := true }, kinds := [], alts := [], laidByText := true, laidKinds := [.data, .pinned], laidTests := true, laidLooks := .later }
def FnValidValueCardSaid : Prop := Claim7.holds Tryd.pinned (.plain (OpenSpec.ofChange fnValidValueSpec)) fnValidValueCard

/-- THE SECOND FORM's CARD OF 'laws.FnDropKey'. -/
def fnDropKeyUptoCard : Claim7 := { stood := { row := fnDropKeyUptoRow, standIns := [], harness := (true, "b64bc98c7585ce0100fd370943567b9549d47aa65229d75fd78072ae860e2701"), looks := true }, kinds := [], alts := [], laidByText := true, laidKinds := [.data, .pinned], laidTests := true, laidLooks := .later }
def FnDropKeyUptoCardSaid : Prop := Claim7.holds Tryd.pinned (.plain (OpenSpec.upto fnDropKeySpec)) fnDropKeyUptoCard

/-- THE SECOND FORM's CARD OF 'laws.FnDropSection'. -/
def fnDropSectionUptoCard : Claim7 := { stood := { row := fnDropSectionUptoRow, standIns := [], harness := (true, "b64bc98c7585ce0100fd370943567b9549d47aa65229d75fd78072ae860e2701"), looks := true }, kinds := [], alts := [], laidByText := true, laidKinds := [.data, .pinned], laidTests := true, laidLooks := .later }
def FnDropSectionUptoCardSaid : Prop := Claim7.holds Tryd.pinned (.plain (OpenSpec.upto fnDropSectionSpec)) fnDropSectionUptoCard

/-- THE SECOND FORM's CARD OF 'laws.FnValidValue'. -/
def fnValidValueUptoCard : Claim7 := { stood := { row := fnValidValueUptoRow, standIns := [], harness := (true, "b64bc98c7585ce0100fd370943567b9549d47aa65229d75fd78072ae860e2701"), looks := true }, kinds := [], alts := [], laidByText := true, laidKinds := [.data, .pinned], laidTests := true, laidLooks := .later }
def FnValidValueUptoCardSaid : Prop := Claim7.holds Tryd.pinned (.plain (OpenSpec.upto fnValidValueSpec)) fnValidValueUptoCard
end Rows
end Go.Proofs.YtclopcbpelhiaaaDoor
