/-
  DERIVED. GIVEN WITH THE SEED: THE CARDS: each row of YtpkikpnfliohiaaDoorRows.lean that lists a variable, with what it lists TIED to the program's text (the seventh form; the later family's looks); each row that meets fmt, with fmt's text TOLD by the authors' own Lean function (tested against real Go, not proved from fmt's source: count such statements apart). THE CARD IS WHAT COUNTS. Prove the row's statement (the work); the ties are given (YtpkikpnfliohiaaDoorTie.lean); close each card by the builder's one call (the guide's Derived/Test/ToyasCard.lean, 'card_holds'). Laid BY PROGRAM, IN A SANDBOX (cutbox-door.mjs). By AI agents, Wed Nov 11 2026. No macro, syntax, notation, axiom, sorry.
-/
import Derived.Test.YtpkikpnfliohiaaDoorRows
import GoSem.ClaimSeven
namespace Go.Proofs.YtpkikpnfliohiaaDoor
namespace Rows

/-- THE TIED CARD OF 'laws.FnCountChanges'. -/
def fnCountChangesCard : Claim7 := { stood := { row := fnCountChangesRow, standIns := [], harness := (true, "3a3430dc0ecfe16c08d9a35efa20666a684a16318b9480435171e356e91321c9"), looks := false }, kinds := [], alts := [], laidByText := true, laidKinds := [.data, .pinned], laidTests := true, laidLooks := .later }
def FnCountChangesCardSaid : Prop := Claim7.holds Tryd.pinned (.plain (OpenSpec.ofChange fnCountChangesSpec)) fnCountChangesCard

/-- THE SECOND FORM's CARD OF 'laws.FnCountChanges'. -/
def fnCountChangesUptoCard : Claim7 := { stood := { row := fnCountChangesUptoRow, standIns := [], harness := (true, "3a3430dc0ecfe16c08d9a35efa20666a684a16318b9480435171e356e91321c9"), looks := false }, kinds := [], alts := [], laidByText := true, laidKinds := [.data, .pinned], laidTests := true, laidLooks := .later }
def FnCountChangesUptoCardSaid : Prop := Claim7.holds Tryd.pinned (.plain (OpenSpec.upto fnCountChangesSpec)) fnCountChangesUptoCard
end Rows
end Go.Proofs.YtpkikpnfliohiaaDoor
