/-
  DERIVED. GIVEN WITH THE SEED: THE CARDS: each row of YtgjineoiebokhaaDoorRows.lean that lists a variable, with what it lists TIED to the program's text (the seventh form; the later family's looks); each row that meets fmt, with fmt's text TOLD by the authors' own Lean function (tested against real Go, not proved from fmt's source: count such statements apart). THE CARD IS WHAT COUNTS. Prove the row's statement (the work); the ties are given (YtgjineoiebokhaaDoorTie.lean); close each card by the builder's one call (the guide's Derived/Test/ToyasCard.lean, 'card_holds'). Laid BY PROGRAM, IN A SANDBOX (cutbox-door.mjs). By AI agents, Wed Nov 11 2026. No macro, syntax, notation, axiom, sorry.
-/
import Derived.Test.YtgjineoiebokhaaDoorRows
import GoSem.ClaimSeven
namespace Go.Proofs.YtgjineoiebokhaaDoor
namespace Rows

/-- THE TIED CARD OF 'laws.FnValidLayer'. -/
def fnValidLayerCard : Claim7 := { stood := { row := fnValidLayerRow, standIns := [], harness := (true, "b5a0abe7dee1447ea4d5091749319c836567439afb29948f83e6b116b0479b12"), looks := false }, kinds := [], alts := [], laidByText := true, laidKinds := [.data, .pinned], laidTests := true, laidLooks := .later }
def FnValidLayerCardSaid : Prop := Claim7.holds Tryd.pinned (.plain (OpenSpec.ofChange fnValidLayerSpec)) fnValidLayerCard

/-- THE TIED CARD OF 'laws.FnLayerSections'. -/
def fnLayerSectionsCard : Claim7 := { stood := { row := fnLayerSectionsRow, standIns := [], harness := (true, "b5a0abe7dee1447ea4d5091749319c836567439afb29948f83e6b116b0479b12"), looks := false }, kinds := [], alts := [], laidByText := true, laidKinds := [.data, .pinned], laidTests := true, laidLooks := .later }
def FnLayerSectionsCardSaid : Prop := Claim7.holds Tryd.pinned (.plain (OpenSpec.ofChange fnLayerSectionsSpec)) fnLayerSectionsCard

/-- THE TIED CARD OF 'laws.FnSectionOf'. -/
def fnSectionOfCard : Claim7 := { stood := { row := fnSectionOfRow, standIns := [], harness := (true, "b5a0abe7dee1447ea4d5091749319c836567439afb29948f83e6b116b0479b12"), looks := false }, kinds := [], alts := [], laidByText := true, laidKinds := [.data, .pinned], laidTests := true, laidLooks := .later }
def FnSectionOfCardSaid : Prop := Claim7.holds Tryd.pinned (.plain (OpenSpec.ofChange fnSectionOfSpec)) fnSectionOfCard

/-- THE TIED CARD OF 'laws.FnSameLayers'. -/
def fnSameLayersCard : Claim7 := { stood := { row := fnSameLayersRow, standIns := [], harness := (true, "b5a0abe7dee1447ea4d5091749319c836567439afb29948f83e6b116b0479b12"), looks := false }, kinds := [], alts := [], laidByText := true, laidKinds := [.data, .pinned], laidTests := true, laidLooks := .later }
def FnSameLayersCardSaid : Prop := Claim7.holds Tryd.pinned (.plain (OpenSpec.ofChange fnSameLayersSpec)) fnSameLayersCard

/-- THE TIED CARD OF 'laws.FnExactPutEntry'. -/
def fnExactPutEntryCard : Claim7 := { stood := { row := fnExactPutEntryRow, standIns := [], harness := (true, "b5a0abe7dee1447ea4d5091749319c836567439afb29948f83e6b116b0479b12"), looks := false }, kinds := [], alts := [], laidByText := true, laidKinds := [.data, .pinned], laidTests := true, laidLooks := .later }
def FnExactPutEntryCardSaid : Prop := Claim7.holds Tryd.pinned (.plain (OpenSpec.ofChange fnExactPutEntrySpec)) fnExactPutEntryCard

/-- THE TIED CARD OF 'laws.FnExactMergeLayers'. -/
def fnExactMergeLayersCard : Claim7 := { stood := { row := fnExactMergeLayersRow, standIns := [], harness := (true, "b5a0abe7dee1447ea4d5091749319c836567439afb29948f83e6b116b0479b12"), looks := false }, kinds := [], alts := [], laidByText := true, laidKinds := [.data, .pinned], laidTests := true, laidLooks := .later }
def FnExactMergeLayersCardSaid : Prop := Claim7.holds Tryd.pinned (.plain (OpenSpec.ofChange fnExactMergeLayersSpec)) fnExactMergeLayersCard

/-- THE TIED CARD OF 'laws.FnExactPatchLayers'. -/
def fnExactPatchLayersCard : Claim7 := { stood := { row := fnExactPatchLayersRow, standIns := [], harness := (true, "b5a0abe7dee1447ea4d5091749319c836567439afb29948f83e6b116b0479b12"), looks := false }, kinds := [], alts := [], laidByText := true, laidKinds := [.data, .pinned], laidTests := true, laidLooks := .later }
def FnExactPatchLayersCardSaid : Prop := Claim7.holds Tryd.pinned (.plain (OpenSpec.ofChange fnExactPatchLayersSpec)) fnExactPatchLayersCard

/-- THE SECOND FORM's CARD OF 'laws.FnValidLayer'. -/
def fnValidLayerUptoCard : Claim7 := { stood := { row := fnValidLayerUptoRow, standIns := [], harness := (true, "b5a0abe7dee1447ea4d5091749319c836567439afb29948f83e6b116b0479b12"), looks := false }, kinds := [], alts := [], laidByText := true, laidKinds := [.data, .pinned], laidTests := true, laidLooks := .later }
def FnValidLayerUptoCardSaid : Prop := Claim7.holds Tryd.pinned (.plain (OpenSpec.upto fnValidLayerSpec)) fnValidLayerUptoCard

/-- THE SECOND FORM's CARD OF 'laws.FnLayerSections'. -/
def fnLayerSectionsUptoCard : Claim7 := { stood := { row := fnLayerSectionsUptoRow, standIns := [], harness := (true, "b5a0abe7dee1447ea4d5091749319c836567439afb29948f83e6b116b0479b12"), looks := false }, kinds := [], alts := [], laidByText := true, laidKinds := [.data, .pinned], laidTests := true, laidLooks := .later }
def FnLayerSectionsUptoCardSaid : Prop := Claim7.holds Tryd.pinned (.plain (OpenSpec.upto fnLayerSectionsSpec)) fnLayerSectionsUptoCard

/-- THE SECOND FORM's CARD OF 'laws.FnSectionOf'. -/
def fnSectionOfUptoCard : Claim7 := { stood := { row := fnSectionOfUptoRow, standIns := [], harness := (true, "b5a0abe7dee1447ea4d5091749319c836567439afb29948f83e6b116b0479b12"), looks := false }, kinds := [], alts := [], laidByText := true, laidKinds := [.data, .pinned], laidTests := true, laidLooks := .later }
def FnSectionOfUptoCardSaid : Prop := Claim7.holds Tryd.pinned (.plain (OpenSpec.upto fnSectionOfSpec)) fnSectionOfUptoCard

/-- THE SECOND FORM's CARD OF 'laws.FnSameLayers'. -/
def fnSameLayersUptoCard : Claim7 := { stood := { row := fnSameLayersUptoRow, standIns := [], harness := (true, "b5a0abe7dee1447ea4d5091749319c836567439afb29948f83e6b116b0479b12"), looks := false }, kinds := [], alts := [], laidByText := true, laidKinds := [.data, .pinned], laidTests := true, laidLooks := .later }
def FnSameLayersUptoCardSaid : Prop := Claim7.holds Tryd.pinned (.plain (OpenSpec.upto fnSameLayersSpec)) fnSameLayersUptoCard

/-- THE SECOND FORM's CARD OF 'laws.FnExactPutEntry'. -/
def fnExactPutEntryUptoCard : Claim7 := { stood := { row := fnExactPutEntryUptoRow, standIns := [], harness := (true, "b5a0abe7dee1447ea4d5091749319c836567439afb29948f83e6b116b0479b12"), looks := false }, kinds := [], alts := [], laidByText := true, laidKinds := [.data, .pinned], laidTests := true, laidLooks := .later }
def FnExactPutEntryUptoCardSaid : Prop := Claim7.holds Tryd.pinned (.plain (OpenSpec.upto fnExactPutEntrySpec)) fnExactPutEntryUptoCard

/-- THE SECOND FORM's CARD OF 'laws.FnExactMergeLayers'. -/
def fnExactMergeLayersUptoCard : Claim7 := { stood := { row := fnExactMergeLayersUptoRow, standIns := [], harness := (true, "b5a0abe7dee1447ea4d5091749319c836567439afb29948f83e6b116b0479b12"), looks := false }, kinds := [], alts := [], laidByText := true, laidKinds := [.data, .pinned], laidTests := true, laidLooks := .later }
def FnExactMergeLayersUptoCardSaid : Prop := Claim7.holds Tryd.pinned (.plain (OpenSpec.upto fnExactMergeLayersSpec)) fnExactMergeLayersUptoCard

/-- THE SECOND FORM's CARD OF 'laws.FnExactPatchLayers'. -/
def fnExactPatchLayersUptoCard : Claim7 := { stood := { row := fnExactPatchLayersUptoRow, standIns := [], harness := (true, "b5a0abe7dee1447ea4d5091749319c836567439afb29948f83e6b116b0479b12"), looks := false }, kinds := [], alts := [], laidByText := true, laidKinds := [.data, .pinned], laidTests := true, laidLooks := .later }
def FnExactPatchLayersUptoCardSaid : Prop := Claim7.holds Tryd.pinned (.plain (OpenSpec.upto fnExactPatchLayersSpec)) fnExactPatchLayersUptoCard
end Rows
end Go.Proofs.YtgjineoiebokhaaDoor
