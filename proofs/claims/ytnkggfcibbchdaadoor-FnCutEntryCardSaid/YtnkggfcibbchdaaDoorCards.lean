/-
  DERIVED. GIVEN WITH THE SEED: THE CARDS: each row of YtnkggfcibbchdaaDoorRows.lean that lists a variable, with what it lists TIED to the program's text (the seventh form; the later family's looks); each row that meets fmt, with fmt's text TOLD by the authors' own Lean function (tested against real Go, not proved from fmt's source: count such statements apart). THE CARD IS WHAT COUNTS. Prove the row's statement (the work); the ties are given (YtnkggfcibbchdaaDoorTie.lean); close each card by the builder's one call (the guide's Derived/Test/ToyasCard.lean, 'card_holds'). Laid BY PROGRAM, IN A SANDBOX (cutbox-door.mjs). By AI agents, Wed Nov 11 2026. No macro, syntax, notation, axiom, sorry.
-/
import Derived.Test.YtnkggfcibbchdaaDoorRows
import GoSem.ClaimSeven
namespace Go.Proofs.YtnkggfcibbchdaaDoor
namespace Rows

/-- THE TIED CARD OF 'laws.FnMergeLayers'. -/
def fnMergeLayersCard : Claim7 := { stood := { row := fnMergeLayersRow, standIns := [], harness := (true, "a2462b4eadf0723433d1ad51a4129a6fa2072c167107c31843f8419344937eac"), looks := false }, kinds := [], alts := [], laidByText := true, laidKinds := [.data, .pinned], laidTests := true, laidLooks := .later }
def FnMergeLayersCardSaid : Prop := Claim7.holds Tryd.pinned (.plain (OpenSpec.ofChange fnMergeLayersSpec)) fnMergeLayersCard

/-- THE TIED CARD OF 'laws.FnIsFlat'. -/
def fnIsFlatCard : Claim7 := { stood := { row := fnIsFlatRow, standIns := [], harness := (true, "a2462b4eadf0723433d1ad51a4129a6fa2072c167107c31843f8419344937eac"), looks := false }, kinds := [], alts := [], laidByText := true, laidKinds := [.data, .pinned], laidTests := true, laidLooks := .later }
def FnIsFlatCardSaid : Prop := Claim7.holds Tryd.pinned (.plain (OpenSpec.ofChange fnIsFlatSpec)) fnIsFlatCard

/-- THE TIED CARD OF 'laws.FnCutEntry'. -/
def fnCutEntryCard : Claim7 := { stood := { row := fnCutEntryRow, standIns := [], harness := (true, "a2462b4eadf0723433d1ad51a4129a6fa2072c167107c31843f8419344937eac"), looks := false }, kinds := [], alts := [], laidByText := true, laidKinds := [.data, .pinned], laidTests := true, laidLooks := .later }
def FnCutEntryCardSaid : Prop := Claim7.holds Tryd.pinned (.plain (OpenSpec.ofChange fnCutEntrySpec)) fnCutEntryCard

/-- THE TIED CARD OF 'laws.FnExactResolve'. -/
def fnExactResolveCard : Claim7 := { stood := { row := fnExactResolveRow, standIns := [], harness := (true, "a2462b4eadf0723433d1ad51a4129a6fa2072c167107c31843f8419344937eac"), looks := false }, kinds := [], alts := [], laidByText := true, laidKinds := [.data, .pinned], laidTests := true, laidLooks := .later }
def FnExactResolveCardSaid : Prop := Claim7.holds Tryd.pinned (.plain (OpenSpec.ofChange fnExactResolveSpec)) fnExactResolveCard

/-- THE TIED CARD OF 'laws.FnExactFlatten'. -/
def fnExactFlattenCard : Claim7 := { stood := { row := fnExactFlattenRow, standIns := [], harness := (true, "a2462b4eadf0723433d1ad51a4129a6fa2072c167107c31843f8419344937eac"), looks := false }, kinds := [], alts := [], laidByText := true, laidKinds := [.data, .pinned], laidTests := true, laidLooks := .later }
def FnExactFlattenCardSaid : Prop := Claim7.holds Tryd.pinned (.plain (OpenSpec.ofChange fnExactFlattenSpec)) fnExactFlattenCard

/-- THE SECOND FORM's CARD OF 'laws.FnMergeLayers'. -/
def fnMergeLayersUptoCard : Claim7 := { stood := { row := fnMergeLayersUptoRow, standIns := [], harness := (true, "a2462b4eadf0723433d1ad51a4129a6fa2072c167107c31843f8419344937eac"), looks := false }, kinds := [], alts := [], laidByText := true, laidKinds := [.data, .pinned], laidTests := true, laidLooks := .later }
def FnMergeLayersUptoCardSaid : Prop := Claim7.holds Tryd.pinned (.plain (OpenSpec.upto fnMergeLayersSpec)) fnMergeLayersUptoCard

/-- THE SECOND FORM's CARD OF 'laws.FnIsFlat'. -/
def fnIsFlatUptoCard : Claim7 := { stood := { row := fnIsFlatUptoRow, standIns := [], harness := (true, "a2462b4eadf0723433d1ad51a4129a6fa2072c167107c31843f8419344937eac"), looks := false }, kinds := [], alts := [], laidByText := true, laidKinds := [.data, .pinned], laidTests := true, laidLooks := .later }
def FnIsFlatUptoCardSaid : Prop := Claim7.holds Tryd.pinned (.plain (OpenSpec.upto fnIsFlatSpec)) fnIsFlatUptoCard

/-- THE SECOND FORM's CARD OF 'laws.FnCutEntry'. -/
def fnCutEntryUptoCard : Claim7 := { stood := { row := fnCutEntryUptoRow, standIns := [], harness := (true, "a2462b4eadf0723433d1ad51a4129a6fa2072c167107c31843f8419344937eac"), looks := false }, kinds := [], alts := [], laidByText := true, laidKinds := [.data, .pinned], laidTests := true, laidLooks := .later }
def FnCutEntryUptoCardSaid : Prop := Claim7.holds Tryd.pinned (.plain (OpenSpec.upto fnCutEntrySpec)) fnCutEntryUptoCard

/-- THE SECOND FORM's CARD OF 'laws.FnExactResolve'. -/
def fnExactResolveUptoCard : Claim7 := { stood := { row := fnExactResolveUptoRow, standIns := [], harness := (true, "a2462b4eadf0723433d1ad51a4129a6fa2072c167107c31843f8419344937eac"), looks := false }, kinds := [], alts := [], laidByText := true, laidKinds := [.data, .pinned], laidTests := true, laidLooks := .later }
def FnExactResolveUptoCardSaid : Prop := Claim7.holds Tryd.pinned (.plain (OpenSpec.upto fnExactResolveSpec)) fnExactResolveUptoCard

/-- THE SECOND FORM's CARD OF 'laws.FnExactFlatten'. -/
def fnExactFlattenUptoCard : Claim7 := { stood := { row := fnExactFlattenUptoRow, standIns := [], harness := (true, "a2462b4eadf0723433d1ad51a4129a6fa2072c167107c31843f8419344937eac"), looks := false }, kinds := [], alts := [], laidByText := true, laidKinds := [.data, .pinned], laidTests := true, laidLooks := .later }
def FnExactFlattenUptoCardSaid : Prop := Claim7.holds Tryd.pinned (.plain (OpenSpec.upto fnExactFlattenSpec)) fnExactFlattenUptoCard
end Rows
end Go.Proofs.YtnkggfcibbchdaaDoor
