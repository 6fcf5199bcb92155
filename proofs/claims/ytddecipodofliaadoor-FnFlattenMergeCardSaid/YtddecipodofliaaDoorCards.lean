/-
  DERIVED. GIVEN WITH THE SEED: THE CARDS: each row of YtddecipodofliaaDoorRows.lean that lists a variable, with what it lists TIED to the program's text (the seventh form; the later family's looks); each row that meets fmt, with fmt's text TOLD by the authors' own Lean function (tested against real Go, not proved from fmt's source: count such statements apart). THE CARD IS WHAT COUNTS. Prove the row's statement (the work); the ties are given (YtddecipodofliaaDoorTie.lean); close each card by the builder's one call (the guide's Derived/Test/ToyasCard.lean, 'card_holds'). Laid BY PROGRAM, IN A SANDBOX (cutbox-door.mjs). By AI agents, Wed Nov 11 2026. No macro, syntax, notation, axiom, sorry.
-/
import Derived.Test.YtddecipodofliaaDoorRows
import GoSem.ClaimSeven
namespace Go.Proofs.YtddecipodofliaaDoor
namespace Rows

/-- THE TIED CARD OF 'laws.FnFlattenMerge'. -/
def fnFlattenMergeCard : Claim7 := { stood := { row := fnFlattenMergeRow, standIns := [], harness := (true, "d3f421ff2be1421ec2b8fe4eed28ea8586cb65b6852cbf3d4468e6401f82ec35"), looks := false }, kinds := [], alts := [], laidByText := true, laidKinds := [.data, .pinned], laidTests := true, laidLooks := .later }
def FnFlattenMergeCardSaid : Prop := Claim7.holds Tryd.pinned (.plain (OpenSpec.ofChange fnFlattenMergeSpec)) fnFlattenMergeCard

/-- THE TIED CARD OF 'laws.FnPatchLayers'. -/
def fnPatchLayersCard : Claim7 := { stood := { row := fnPatchLayersRow, standIns := [], harness := (true, "d3f421ff2be1421ec2b8fe4eed28ea8586cb65b6852cbf3d4468e6401f82ec35"), looks := false }, kinds := [], alts := [], laidByText := true, laidKinds := [.data, .pinned], laidTests := true, laidLooks := .later }
def FnPatchLayersCardSaid : Prop := Claim7.holds Tryd.pinned (.plain (OpenSpec.ofChange fnPatchLayersSpec)) fnPatchLayersCard

/-- THE TIED CARD OF 'laws.FnCommonLayer'. -/
def fnCommonLayerCard : Claim7 := { stood := { row := fnCommonLayerRow, standIns := [], harness := (true, "d3f421ff2be1421ec2b8fe4eed28ea8586cb65b6852cbf3d4468e6401f82ec35"), looks := false }, kinds := [], alts := [], laidByText := true, laidKinds := [.data, .pinned], laidTests := true, laidLooks := .later }
def FnCommonLayerCardSaid : Prop := Claim7.holds Tryd.pinned (.plain (OpenSpec.ofChange fnCommonLayerSpec)) fnCommonLayerCard

/-- THE SECOND FORM's CARD OF 'laws.FnFlattenMerge'. -/
def fnFlattenMergeUptoCard : Claim7 := { stood := { row := fnFlattenMergeUptoRow, standIns := [], harness := (true, "d3f421ff2be1421ec2b8fe4eed28ea8586cb65b6852cbf3d4468e6401f82ec35"), looks := false }, kinds := [], alts := [], laidByText := true, laidKinds := [.data, .pinned], laidTests := true, laidLooks := .later }
def FnFlattenMergeUptoCardSaid : Prop := Claim7.holds Tryd.pinned (.plain (OpenSpec.upto fnFlattenMergeSpec)) fnFlattenMergeUptoCard

/-- THE SECOND FORM's CARD OF 'laws.FnPatchLayers'. -/
def fnPatchLayersUptoCard : Claim7 := { stood := { row := fnPatchLayersUptoRow, standIns := [], harness := (true, "d3f421ff2be1421ec2b8fe4eed28ea8586cb65b6852cbf3d4468e6401f82ec35"), looks := false }, kinds := [], alts := [], laidByText := true, laidKinds := [.data, .pinned], laidTests := true, laidLooks := .later }
def FnPatchLayersUptoCardSaid : Prop := Claim7.holds Tryd.pinned (.plain (OpenSpec.upto fnPatchLayersSpec)) fnPatchLayersUptoCard

/-- THE SECOND FORM's CARD OF 'laws.FnCommonLayer'. -/
def fnCommonLayerUptoCard : Claim7 := { stood := { row := fnCommonLayerUptoRow, standIns := [], harness := (true, "d3f421ff2be1421ec2b8fe4eed28ea8586cb65b6852cbf3d4468e6401f82ec35"), looks := false }, kinds := [], alts := [], laidByText := true, laidKinds := [.data, .pinned], laidTests := true, laidLooks := .later }
def FnCommonLayerUptoCardSaid : Prop := Claim7.holds Tryd.pinned (.plain (OpenSpec.upto fnCommonLayerSpec)) fnCommonLayerUptoCard
end Rows
end Go.Proofs.YtddecipodofliaaDoor
