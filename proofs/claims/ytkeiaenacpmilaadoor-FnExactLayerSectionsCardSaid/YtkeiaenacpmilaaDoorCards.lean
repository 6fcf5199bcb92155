/-
  DERIVED. GIVEN WITH THE SEED: THE CARDS: each row of YtkeiaenacpmilaaDoorRows.lean that lists a variable, with what it lists TIED to the program's text (the seventh form; the later family's looks); each row that meets fmt, with fmt's text TOLD by the authors' own Lean function (tested against real Go, not proved from fmt's source: count such statements apart). THE CARD IS WHAT COUNTS. Prove the row's statement (the work); the ties are given (YtkeiaenacpmilaaDoorTie.lean); close each card by the builder's one call (the guide's Derived/Test/ToyasCard.lean, 'card_holds'). Laid BY PROGRAM, IN A SANDBOX (cutbox-door.mjs). By AI agents, Wed Nov 11 2026. No macro, syntax, notation, axiom, sorry.
-/
import Derived.Test.YtkeiaenacpmilaaDoorRows
import GoSem.ClaimSeven
namespace Go.Proofs.YtkeiaenacpmilaaDoor
namespace Rows

/-- THE TIED CARD OF 'laws.FnExactEscapeText'. -/
def fnExactEscapeTextCard : Claim7 := { stood := { row := fnExactEscapeTextRow, standIns := [], harness := (true, "11e677b296ecc34d89139f99ba7de25847b77382d3774ee119f7401bccd52f66"), looks := false }, kinds := [], alts := [], laidByText := true, laidKinds := [.data, .pinned], laidTests := true, laidLooks := .later }
def FnExactEscapeTextCardSaid : Prop := Claim7.holds Tryd.pinned (.plain (OpenSpec.ofChange fnExactEscapeTextSpec)) fnExactEscapeTextCard

/-- THE TIED CARD OF 'laws.FnExactValidLayer'. -/
def fnExactValidLayerCard : Claim7 := { stood := { row := fnExactValidLayerRow, standIns := [], harness := (true, "11e677b296ecc34d89139f99ba7de25847b77382d3774ee119f7401bccd52f66"), looks := false }, kinds := [], alts := [], laidByText := true, laidKinds := [.data, .pinned], laidTests := true, laidLooks := .later }
def FnExactValidLayerCardSaid : Prop := Claim7.holds Tryd.pinned (.plain (OpenSpec.ofChange fnExactValidLayerSpec)) fnExactValidLayerCard

/-- THE TIED CARD OF 'laws.FnExactIsFlat'. -/
def fnExactIsFlatCard : Claim7 := { stood := { row := fnExactIsFlatRow, standIns := [], harness := (true, "11e677b296ecc34d89139f99ba7de25847b77382d3774ee119f7401bccd52f66"), looks := false }, kinds := [], alts := [], laidByText := true, laidKinds := [.data, .pinned], laidTests := true, laidLooks := .later }
def FnExactIsFlatCardSaid : Prop := Claim7.holds Tryd.pinned (.plain (OpenSpec.ofChange fnExactIsFlatSpec)) fnExactIsFlatCard

/-- THE TIED CARD OF 'laws.FnExactSectionOf'. -/
def fnExactSectionOfCard : Claim7 := { stood := { row := fnExactSectionOfRow, standIns := [], harness := (true, "11e677b296ecc34d89139f99ba7de25847b77382d3774ee119f7401bccd52f66"), looks := false }, kinds := [], alts := [], laidByText := true, laidKinds := [.data, .pinned], laidTests := true, laidLooks := .later }
def FnExactSectionOfCardSaid : Prop := Claim7.holds Tryd.pinned (.plain (OpenSpec.ofChange fnExactSectionOfSpec)) fnExactSectionOfCard

/-- THE TIED CARD OF 'laws.FnExactCutEntry'. -/
def fnExactCutEntryCard : Claim7 := { stood := { row := fnExactCutEntryRow, standIns := [], harness := (true, "11e677b296ecc34d89139f99ba7de25847b77382d3774ee119f7401bccd52f66"), looks := false }, kinds := [], alts := [], laidByText := true, laidKinds := [.data, .pinned], laidTests := true, laidLooks := .later }
def FnExactCutEntryCardSaid : Prop := Claim7.holds Tryd.pinned (.plain (OpenSpec.ofChange fnExactCutEntrySpec)) fnExactCutEntryCard

/-- THE TIED CARD OF 'laws.FnExactCommonLayer'. -/
def fnExactCommonLayerCard : Claim7 := { stood := { row := fnExactCommonLayerRow, standIns := [], harness := (true, "11e677b296ecc34d89139f99ba7de25847b77382d3774ee119f7401bccd52f66"), looks := false }, kinds := [], alts := [], laidByText := true, laidKinds := [.data, .pinned], laidTests := true, laidLooks := .later }
def FnExactCommonLayerCardSaid : Prop := Claim7.holds Tryd.pinned (.plain (OpenSpec.ofChange fnExactCommonLayerSpec)) fnExactCommonLayerCard

/-- THE TIED CARD OF 'laws.FnExactPutEntry'. -/
def fnExactPutEntryCard : Claim7 := { stood := { row := fnExactPutEntryRow, standIns := [], harness := (true, "11e677b296ecc34d89139f99ba7de25847b77382d3774ee119f7401bccd52f66"), looks := false }, kinds := [], alts := [], laidByText := true, laidKinds := [.data, .pinned], laidTests := true, laidLooks := .later }
def FnExactPutEntryCardSaid : Prop := Claim7.holds Tryd.pinned (.plain (OpenSpec.ofChange fnExactPutEntrySpec)) fnExactPutEntryCard

/-- THE TIED CARD OF 'laws.FnExactLayerSections'. -/
def fnExactLayerSectionsCard : Claim7 := { stood := { row := fnExactLayerSectionsRow, standIns := [], harness := (true, "11e677b296ecc34d89139f99ba7de25847b77382d3774ee119f7401bccd52f66"), looks := false }, kinds := [], alts := [], laidByText := true, laidKinds := [.data, .pinned], laidTests := true, laidLooks := .later }
def FnExactLayerSectionsCardSaid : Prop := Claim7.holds Tryd.pinned (.plain (OpenSpec.ofChange fnExactLayerSectionsSpec)) fnExactLayerSectionsCard

/-- THE TIED CARD OF 'laws.FnExactSameLayers'. -/
def fnExactSameLayersCard : Claim7 := { stood := { row := fnExactSameLayersRow, standIns := [], harness := (true, "11e677b296ecc34d89139f99ba7de25847b77382d3774ee119f7401bccd52f66"), looks := false }, kinds := [], alts := [], laidByText := true, laidKinds := [.data, .pinned], laidTests := true, laidLooks := .later }
def FnExactSameLayersCardSaid : Prop := Claim7.holds Tryd.pinned (.plain (OpenSpec.ofChange fnExactSameLayersSpec)) fnExactSameLayersCard

/-- THE TIED CARD OF 'laws.FnExactMergeLayers'. -/
def fnExactMergeLayersCard : Claim7 := { stood := { row := fnExactMergeLayersRow, standIns := [], harness := (true, "11e677b296ecc34d89139f99ba7de25847b77382d3774ee119f7401bccd52f66"), looks := false }, kinds := [], alts := [], laidByText := true, laidKinds := [.data, .pinned], laidTests := true, laidLooks := .later }
def FnExactMergeLayersCardSaid : Prop := Claim7.holds Tryd.pinned (.plain (OpenSpec.ofChange fnExactMergeLayersSpec)) fnExactMergeLayersCard

/-- THE TIED CARD OF 'laws.FnExactPatchLayers'. -/
def fnExactPatchLayersCard : Claim7 := { stood := { row := fnExactPatchLayersRow, standIns := [], harness := (true, "11e677b296ecc34d89139f99ba7de25847b77382d3774ee119f7401bccd52f66"), looks := false }, kinds := [], alts := [], laidByText := true, laidKinds := [.data, .pinned], laidTests := true, laidLooks := .later }
def FnExactPatchLayersCardSaid : Prop := Claim7.holds Tryd.pinned (.plain (OpenSpec.ofChange fnExactPatchLayersSpec)) fnExactPatchLayersCard

/-- THE SECOND FORM's CARD OF 'laws.FnExactEscapeText'. -/
def fnExactEscapeTextUptoCard : Claim7 := { stood := { row := fnExactEscapeTextUptoRow, standIns := [], harness := (true, "11e677b296ecc34d89139f99ba7de25847b77382d3774ee119f7401bccd52f66"), looks := false }, kinds := [], alts := [], laidByText := true, laidKinds := [.data, .pinned], laidTests := true, laidLooks := .later }
def FnExactEscapeTextUptoCardSaid : Prop := Claim7.holds Tryd.pinned (.plain (OpenSpec.upto fnExactEscapeTextSpec)) fnExactEscapeTextUptoCard

/-- THE SECOND FORM's CARD OF 'laws.FnExactValidLayer'. -/
def fnExactValidLayerUptoCard : Claim7 := { stood := { row := fnExactValidLayerUptoRow, standIns := [], harness := (true, "11e677b296ecc34d89139f99ba7de25847b77382d3774ee119f7401bccd52f66"), looks := false }, kinds := [], alts := [], laidByText := true, laidKinds := [.data, .pinned], laidTests := true, laidLooks := .later }
def FnExactValidLayerUptoCardSaid : Prop := Claim7.holds Tryd.pinned (.plain (OpenSpec.upto fnExactValidLayerSpec)) fnExactValidLayerUptoCard

/-- THE SECOND FORM's CARD OF 'laws.FnExactIsFlat'. -/
def fnExactIsFlatUptoCard : Claim7 := { stood := { row := fnExactIsFlatUptoRow, standIns := [], harness := (true, "11e677b296ecc34d89139f99ba7de25847b77382d3774ee119f7401bccd52f66"), looks := false }, kinds := [], alts := [], laidByText := true, laidKinds := [.data, .pinned], laidTests := true, laidLooks := .later }
def FnExactIsFlatUptoCardSaid : Prop := Claim7.holds Tryd.pinned (.plain (OpenSpec.upto fnExactIsFlatSpec)) fnExactIsFlatUptoCard

/-- THE SECOND FORM's CARD OF 'laws.FnExactSectionOf'. -/
def fnExactSectionOfUptoCard : Claim7 := { stood := { row := fnExactSectionOfUptoRow, standIns := [], harness := (true, "11e677b296ecc34d89139f99ba7de25847b77382d3774ee119f7401bccd52f66"), looks := false }, kinds := [], alts := [], laidByText := true, laidKinds := [.data, .pinned], laidTests := true, laidLooks := .later }
def FnExactSectionOfUptoCardSaid : Prop := Claim7.holds Tryd.pinned (.plain (OpenSpec.upto fnExactSectionOfSpec)) fnExactSectionOfUptoCard

/-- THE SECOND FORM's CARD OF 'laws.FnExactCutEntry'. -/
def fnExactCutEntryUptoCard : Claim7 := { stood := { row := fnExactCutEntryUptoRow, standIns := [], harness := (true, "11e677b296ecc34d89139f99ba7de25847b77382d3774ee119f7401bccd52f66"), looks := false }, kinds := [], alts := [], laidByText := true, laidKinds := [.data, .pinned], laidTests := true, laidLooks := .later }
def FnExactCutEntryUptoCardSaid : Prop := Claim7.holds Tryd.pinned (.plain (OpenSpec.upto fnExactCutEntrySpec)) fnExactCutEntryUptoCard

/-- THE SECOND FORM's CARD OF 'laws.FnExactCommonLayer'. -/
def fnExactCommonLayerUptoCard : Claim7 := { stood := { row := fnExactCommonLayerUptoRow, standIns := [], harness := (true, "11e677b296ecc34d89139f99ba7de25847b77382d3774ee119f7401bccd52f66"), looks := false }, kinds := [], alts := [], laidByText := true, laidKinds := [.data, .pinned], laidTests := true, laidLooks := .later }
def FnExactCommonLayerUptoCardSaid : Prop := Claim7.holds Tryd.pinned (.plain (OpenSpec.upto fnExactCommonLayerSpec)) fnExactCommonLayerUptoCard

/-- THE SECOND FORM's CARD OF 'laws.FnExactPutEntry'. -/
def fnExactPutEntryUptoCard : Claim7 := { stood := { row := fnExactPutEntryUptoRow, standIns := [], harness := (true, "11e677b296ecc34d89139f99ba7de25847b77382d3774ee119f7401bccd52f66"), looks := false }, kinds := [], alts := [], laidByText := true, laidKinds := [.data, .pinned], laidTests := true, laidLooks := .later }
def FnExactPutEntryUptoCardSaid : Prop := Claim7.holds Tryd.pinned (.plain (OpenSpec.upto fnExactPutEntrySpec)) fnExactPutEntryUptoCard

/-- THE SECOND FORM's CARD OF 'laws.FnExactLayerSections'. -/
def fnExactLayerSectionsUptoCard : Claim7 := { stood := { row := fnExactLayerSectionsUptoRow, standIns := [], harness := (true, "11e677b296ecc34d89139f99ba7de25847b77382d3774ee119f7401bccd52f66"), looks := false }, kinds := [], alts := [], laidByText := true, laidKinds := [.data, .pinned], laidTests := true, laidLooks := .later }
def FnExactLayerSectionsUptoCardSaid : Prop := Claim7.holds Tryd.pinned (.plain (OpenSpec.upto fnExactLayerSectionsSpec)) fnExactLayerSectionsUptoCard

/-- THE SECOND FORM's CARD OF 'laws.FnExactSameLayers'. -/
def fnExactSameLayersUptoCard : Claim7 := { stood := { row := fnExactSameLayersUptoRow, standIns := [], harness := (true, "11e677b296ecc34d89139f99ba7de25847b77382d3774ee119f7401bccd52f66"), looks := false }, kinds := [], alts := [], laidByText := true, laidKinds := [.data, .pinned], laidTests := true, laidLooks := .later }
def FnExactSameLayersUptoCardSaid : Prop := Claim7.holds Tryd.pinned (.plain (OpenSpec.upto fnExactSameLayersSpec)) fnExactSameLayersUptoCard

/-- THE SECOND FORM's CARD OF 'laws.FnExactMergeLayers'. -/
def fnExactMergeLayersUptoCard : Claim7 := { stood := { row := fnExactMergeLayersUptoRow, standIns := [], harness := (true, "11e677b296ecc34d89139f99ba7de25847b77382d3774ee119f7401bccd52f66"), looks := false }, kinds := [], alts := [], laidByText := true, laidKinds := [.data, .pinned], laidTests := true, laidLooks := .later }
def FnExactMergeLayersUptoCardSaid : Prop := Claim7.holds Tryd.pinned (.plain (OpenSpec.upto fnExactMergeLayersSpec)) fnExactMergeLayersUptoCard

/-- THE SECOND FORM's CARD OF 'laws.FnExactPatchLayers'. -/
def fnExactPatchLayersUptoCard : Claim7 := { stood := { row := fnExactPatchLayersUptoRow, standIns := [], harness := (true, "11e677b296ecc34d89139f99ba7de25847b77382d3774ee119f7401bccd52f66"), looks := false }, kinds := [], alts := [], laidByText := true, laidKinds := [.data, .pinned], laidTests := true, laidLooks := .later }
def FnExactPatchLayersUptoCardSaid : Prop := Claim7.holds Tryd.pinned (.plain (OpenSpec.upto fnExactPatchLayersSpec)) fnExactPatchLayersUptoCard
end Rows
end Go.Proofs.YtkeiaenacpmilaaDoor
