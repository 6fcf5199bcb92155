/-
  DERIVED. GIVEN WITH THE SEED: THE CARDS: each row of YtcecjdjfbgmogaaDoorRows.lean that lists a variable, with what it lists TIED to the program's text (the seventh form; the later family's looks); each row that meets fmt, with fmt's text TOLD by the authors' own Lean function (tested against real Go, not proved from fmt's source: count such statements apart). THE CARD IS WHAT COUNTS. Prove the row's statement (the work); the ties are given (YtcecjdjfbgmogaaDoorTie.lean); close each card by the builder's one call (the guide's Derived/Test/ToyasCard.lean, 'card_holds'). Laid BY PROGRAM, IN A SANDBOX (cutbox-door.mjs). By AI agents, Wed Nov 11 2026. No macro, syntax, notation, axiom, sorry.
-/
import Derived.Test.YtcecjdjfbgmogaaDoorRows
import GoSem.ClaimSeven
namespace Go.Proofs.YtcecjdjfbgmogaaDoor
namespace Rows

/-- THE TIED CARD OF 'laws.FnPatchLayers'. -/
def fnPatchLayersCard : Claim7 := { stood := { row := fnPatchLayersRow, standIns := [], harness := (true, "04263f38ba910081de8115f076ffcd316c3aee4963c971f3e0f05a06571f26f3"), looks := false }, kinds := [], alts := [], laidByText := true, laidKinds := [.data, .pinned], laidTests := true, laidLooks := .later }
def FnPatchLayersCardSaid : Prop := Claim7.holds Tryd.pinned (.plain (OpenSpec.ofChange fnPatchLayersSpec)) fnPatchLayersCard

/-- THE TIED CARD OF 'laws.FnCommonLayer'. -/
def fnCommonLayerCard : Claim7 := { stood := { row := fnCommonLayerRow, standIns := [], harness := (true, "04263f38ba910081de8115f076ffcd316c3aee4963c971f3e0f05a06571f26f3"), looks := false }, kinds := [], alts := [], laidByText := true, laidKinds := [.data, .pinned], laidTests := true, laidLooks := .later }
def FnCommonLayerCardSaid : Prop := Claim7.holds Tryd.pinned (.plain (OpenSpec.ofChange fnCommonLayerSpec)) fnCommonLayerCard

/-- THE TIED CARD OF 'laws.FnExactWhyValue'. -/
def fnExactWhyValueCard : Claim7 := { stood := { row := fnExactWhyValueRow, standIns := [], harness := (true, "04263f38ba910081de8115f076ffcd316c3aee4963c971f3e0f05a06571f26f3"), looks := false }, kinds := [], alts := [], laidByText := true, laidKinds := [.data, .pinned], laidTests := true, laidLooks := .later }
def FnExactWhyValueCardSaid : Prop := Claim7.holds Tryd.pinned (.plain (OpenSpec.ofChange fnExactWhyValueSpec)) fnExactWhyValueCard

/-- THE TIED CARD OF 'laws.FnWhyValue'. -/
def fnWhyValueCard : Claim7 := { stood := { row := fnWhyValueRow, standIns := [], harness := (true, "04263f38ba910081de8115f076ffcd316c3aee4963c971f3e0f05a06571f26f3"), looks := false }, kinds := [], alts := [], laidByText := true, laidKinds := [.data, .pinned], laidTests := true, laidLooks := .later }
def FnWhyValueCardSaid : Prop := Claim7.holds Tryd.pinned (.plain (OpenSpec.ofChange fnWhyValueSpec)) fnWhyValueCard

/-- THE TIED CARD OF 'laws.FnExactCountChanges'. -/
def fnExactCountChangesCard : Claim7 := { stood := { row := fnExactCountChangesRow, standIns := [], harness := (true, "04263f38ba910081de8115f076ffcd316c3aee4963c971f3e0f05a06571f26f3"), looks := false }, kinds := [], alts := [], laidByText := true, laidKinds := [.data, .pinned], laidTests := true, laidLooks := .later }
def FnExactCountChangesCardSaid : Prop := Claim7.holds Tryd.pinned (.plain (OpenSpec.ofChange fnExactCountChangesSpec)) fnExactCountChangesCard

/-- THE SECOND FORM's CARD OF 'laws.FnPatchLayers'. -/
def fnPatchLayersUptoCard : Claim7 := { stood := { row := fnPatchLayersUptoRow, standIns := [], harness := (true, "04263f38ba910081de8115f076ffcd316c3aee4963c971f3e0f05a06571f26f3"), looks := false }, kinds := [], alts := [], laidByText := true, laidKinds := [.data, .pinned], laidTests := true, laidLooks := .later }
def FnPatchLayersUptoCardSaid : Prop := Claim7.holds Tryd.pinned (.plain (OpenSpec.upto fnPatchLayersSpec)) fnPatchLayersUptoCard

/-- THE SECOND FORM's CARD OF 'laws.FnCommonLayer'. -/
def fnCommonLayerUptoCard : Claim7 := { stood := { row := fnCommonLayerUptoRow, standIns := [], harness := (true, "04263f38ba910081de8115f076ffcd316c3aee4963c971f3e0f05a06571f26f3"), looks := false }, kinds := [], alts := [], laidByText := true, laidKinds := [.data, .pinned], laidTests := true, laidLooks := .later }
def FnCommonLayerUptoCardSaid : Prop := Claim7.holds Tryd.pinned (.plain (OpenSpec.upto fnCommonLayerSpec)) fnCommonLayerUptoCard

/-- THE SECOND FORM's CARD OF 'laws.FnExactWhyValue'. -/
def fnExactWhyValueUptoCard : Claim7 := { stood := { row := fnExactWhyValueUptoRow, standIns := [], harness := (true, "04263f38ba910081de8115f076ffcd316c3aee4963c971f3e0f05a06571f26f3"), looks := false }, kinds := [], alts := [], laidByText := true, laidKinds := [.data, .pinned], laidTests := true, laidLooks := .later }
def FnExactWhyValueUptoCardSaid : Prop := Claim7.holds Tryd.pinned (.plain (OpenSpec.upto fnExactWhyValueSpec)) fnExactWhyValueUptoCard

/-- THE SECOND FORM's CARD OF 'laws.FnWhyValue'. -/
def fnWhyValueUptoCard : Claim7 := { stood := { row := fnWhyValueUptoRow, standIns := [], harness := (true, "04263f38ba910081de8115f076ffcd316c3aee4963c971f3e0f05a06571f26f3"), looks := false }, kinds := [], alts := [], laidByText := true, laidKinds := [.data, .pinned], laidTests := true, laidLooks := .later }
def FnWhyValueUptoCardSaid : Prop := Claim7.holds Tryd.pinned (.plain (OpenSpec.upto fnWhyValueSpec)) fnWhyValueUptoCard

/-- THE SECOND FORM's CARD OF 'laws.FnExactCountChanges'. -/
def fnExactCountChangesUptoCard : Claim7 := { stood := { row := fnExactCountChangesUptoRow, standIns := [], harness := (true, "04263f38ba910081de8115f076ffcd316c3aee4963c971f3e0f05a06571f26f3"), looks := false }, kinds := [], alts := [], laidByText := true, laidKinds := [.data, .pinned], laidTests := true, laidLooks := .later }
def FnExactCountChangesUptoCardSaid : Prop := Claim7.holds Tryd.pinned (.plain (OpenSpec.upto fnExactCountChangesSpec)) fnExactCountChangesUptoCard
end Rows
end Go.Proofs.YtcecjdjfbgmogaaDoor
