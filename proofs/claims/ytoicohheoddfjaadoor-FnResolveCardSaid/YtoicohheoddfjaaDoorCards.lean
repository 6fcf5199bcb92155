/-
  DERIVED. GIVEN WITH THE SEED: THE CARDS: each row of YtoicohheoddfjaaDoorRows.lean that lists a variable, with what it lists TIED to the program's text (the seventh form; the later family's looks); each row that meets fmt, with fmt's text TOLD by the authors' own Lean function (tested against real Go, not proved from fmt's source: count such statements apart). THE CARD IS WHAT COUNTS. Prove the row's statement (the work); the ties are given (YtoicohheoddfjaaDoorTie.lean); close each card by the builder's one call (the guide's Derived/Test/ToyasCard.lean, 'card_holds'). Laid BY PROGRAM, IN A SANDBOX (cutbox-door.mjs). By AI agents, Wed Nov 11 2026. No macro, syntax, notation, axiom, sorry.
-/
import Derived.Test.YtoicohheoddfjaaDoorRows
import GoSem.ClaimSeven
namespace Go.Proofs.YtoicohheoddfjaaDoor
namespace Rows

/-- THE TIED CARD OF 'laws.FnFlatten'. -/
def fnFlattenCard : Claim7 := { stood := { row := fnFlattenRow, standIns := [], harness := (true, "b022760d6b08b7c3d77363f4a88a694bfacb1ec763faa7c5a8150def0cce093d"), looks := false }, kinds := [], alts := [], laidByText := true, laidKinds := [.data, .pinned], laidTests := true, laidLooks := .later }
def FnFlattenCardSaid : Prop := Claim7.holds Tryd.pinned (.plain (OpenSpec.ofChange fnFlattenSpec)) fnFlattenCard

/-- THE TIED CARD OF 'laws.FnResolve'. -/
def fnResolveCard : Claim7 := { stood := { row := fnResolveRow, standIns := [], harness := (true, "b022760d6b08b7c3d77363f4a88a694bfacb1ec763faa7c5a8150def0cce093d"), looks := false }, kinds := [], alts := [], laidByText := true, laidKinds := [.data, .pinned], laidTests := true, laidLooks := .later }
def FnResolveCardSaid : Prop := Claim7.holds Tryd.pinned (.plain (OpenSpec.ofChange fnResolveSpec)) fnResolveCard

/-- THE TIED CARD OF 'laws.FnUndoLayer'. -/
def fnUndoLayerCard : Claim7 := { stood := { row := fnUndoLayerRow, standIns := [], harness := (true, "b022760d6b08b7c3d77363f4a88a694bfacb1ec763faa7c5a8150def0cce093d"), looks := false }, kinds := [], alts := [], laidByText := true, laidKinds := [.data, .pinned], laidTests := true, laidLooks := .later }
def FnUndoLayerCardSaid : Prop := Claim7.holds Tryd.pinned (.plain (OpenSpec.ofChange fnUndoLayerSpec)) fnUndoLayerCard

/-- THE TIED CARD OF 'laws.FnExactUndoLayer'. -/
def fnExactUndoLayerCard : Claim7 := { stood := { row := fnExactUndoLayerRow, standIns := [], harness := (true, "b022760d6b08b7c3d77363f4a88a694bfacb1ec763faa7c5a8150def0cce093d"), looks := false }, kinds := [], alts := [], laidByText := true, laidKinds := [.data, .pinned], laidTests := true, laidLooks := .later }
def FnExactUndoLayerCardSaid : Prop := Claim7.holds Tryd.pinned (.plain (OpenSpec.ofChange fnExactUndoLayerSpec)) fnExactUndoLayerCard

/-- THE SECOND FORM's CARD OF 'laws.FnFlatten'. -/
def fnFlattenUptoCard : Claim7 := { stood := { row := fnFlattenUptoRow, standIns := [], harness := (true, "b022760d6b08b7c3d77363f4a88a694bfacb1ec763faa7c5a8150def0cce093d"), looks := false }, kinds := [], alts := [], laidByText := true, laidKinds := [.data, .pinned], laidTests := true, laidLooks := .later }
def FnFlattenUptoCardSaid : Prop := Claim7.holds Tryd.pinned (.plain (OpenSpec.upto fnFlattenSpec)) fnFlattenUptoCard

/-- THE SECOND FORM's CARD OF 'laws.FnResolve'. -/
def fnResolveUptoCard : Claim7 := { stood := { row := fnResolveUptoRow, standIns := [], harness := (true, "b022760d6b08b7c3d77363f4a88a694bfacb1ec763faa7c5a8150def0cce093d"), looks := false }, kinds := [], alts := [], laidByText := true, laidKinds := [.data, .pinned], laidTests := true, laidLooks := .later }
def FnResolveUptoCardSaid : Prop := Claim7.holds Tryd.pinned (.plain (OpenSpec.upto fnResolveSpec)) fnResolveUptoCard

/-- THE SECOND FORM's CARD OF 'laws.FnUndoLayer'. -/
def fnUndoLayerUptoCard : Claim7 := { stood := { row := fnUndoLayerUptoRow, standIns := [], harness := (true, "b022760d6b08b7c3d77363f4a88a694bfacb1ec763faa7c5a8150def0cce093d"), looks := false }, kinds := [], alts := [], laidByText := true, laidKinds := [.data, .pinned], laidTests := true, laidLooks := .later }
def FnUndoLayerUptoCardSaid : Prop := Claim7.holds Tryd.pinned (.plain (OpenSpec.upto fnUndoLayerSpec)) fnUndoLayerUptoCard

/-- THE SECOND FORM's CARD OF 'laws.FnExactUndoLayer'. -/
def fnExactUndoLayerUptoCard : Claim7 := { stood := { row := fnExactUndoLayerUptoRow, standIns := [], harness := (true, "b022760d6b08b7c3d77363f4a88a694bfacb1ec763faa7c5a8150def0cce093d"), looks := false }, kinds := [], alts := [], laidByText := true, laidKinds := [.data, .pinned], laidTests := true, laidLooks := .later }
def FnExactUndoLayerUptoCardSaid : Prop := Claim7.holds Tryd.pinned (.plain (OpenSpec.upto fnExactUndoLayerSpec)) fnExactUndoLayerUptoCard
end Rows
end Go.Proofs.YtoicohheoddfjaaDoor
