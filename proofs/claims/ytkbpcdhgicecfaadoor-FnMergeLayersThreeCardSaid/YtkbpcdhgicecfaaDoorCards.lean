/-
  DERIVED. GIVEN WITH THE SEED: THE CARDS: each row of YtkbpcdhgicecfaaDoorRows.lean that lists a variable, with what it lists TIED to the program's text (the seventh form; the later family's looks); each row that meets fmt, with fmt's text TOLD by the authors' own Lean function (tested against real Go, not proved from fmt's source: count such statements apart). THE CARD IS WHAT COUNTS. Prove the row's statement (the work); the ties are given (YtkbpcdhgicecfaaDoorTie.lean); close each card by the builder's one call (the guide's Derived/Test/ToyasCard.lean, 'card_holds'). Laid BY PROGRAM, IN A SANDBOX (cutbox-door.mjs). By AI agents, Wed Nov 11 2026. No macro, syntax, notation, axiom, sorry.
-/
import Derived.Test.YtkbpcdhgicecfaaDoorRows
import GoSem.ClaimSeven
namespace Go.Proofs.YtkbpcdhgicecfaaDoor
namespace Rows

/-- THE TIED CARD OF 'laws.FnMergeLayersThree'. -/
def fnMergeLayersThreeCard : Claim7 := { stood := { row := fnMergeLayersThreeRow, standIns := [], harness := (true, "1823625e7d628b6127bfa79dd8132dab2909bfac997afc288718e04f3244cf12"), looks := false }, kinds := [], alts := [], laidByText := true, laidKinds := [.data, .pinned], laidTests := true, laidLooks := .later }
def FnMergeLayersThreeCardSaid : Prop := Claim7.holds Tryd.pinned (.plain (OpenSpec.ofChange fnMergeLayersThreeSpec)) fnMergeLayersThreeCard

/-- THE TIED CARD OF 'laws.FnPutEntry'. -/
def fnPutEntryCard : Claim7 := { stood := { row := fnPutEntryRow, standIns := [], harness := (true, "1823625e7d628b6127bfa79dd8132dab2909bfac997afc288718e04f3244cf12"), looks := false }, kinds := [], alts := [], laidByText := true, laidKinds := [.data, .pinned], laidTests := true, laidLooks := .later }
def FnPutEntryCardSaid : Prop := Claim7.holds Tryd.pinned (.plain (OpenSpec.ofChange fnPutEntrySpec)) fnPutEntryCard

/-- THE SECOND FORM's CARD OF 'laws.FnMergeLayersThree'. -/
def fnMergeLayersThreeUptoCard : Claim7 := { stood := { row := fnMergeLayersThreeUptoRow, standIns := [], harness := (true, "1823625e7d628b6127bfa79dd8132dab2909bfac997afc288718e04f3244cf12"), looks := false }, kinds := [], alts := [], laidByText := true, laidKinds := [.data, .pinned], laidTests := true, laidLooks := .later }
def FnMergeLayersThreeUptoCardSaid : Prop := Claim7.holds Tryd.pinned (.plain (OpenSpec.upto fnMergeLayersThreeSpec)) fnMergeLayersThreeUptoCard

/-- THE SECOND FORM's CARD OF 'laws.FnPutEntry'. -/
def fnPutEntryUptoCard : Claim7 := { stood := { row := fnPutEntryUptoRow, standIns := [], harness := (true, "1823625e7d628b6127bfa79dd8132dab2909bfac997afc288718e04f3244cf12"), looks := false }, kinds := [], alts := [], laidByText := true, laidKinds := [.data, .pinned], laidTests := true, laidLooks := .later }
def FnPutEntryUptoCardSaid : Prop := Claim7.holds Tryd.pinned (.plain (OpenSpec.upto fnPutEntrySpec)) fnPutEntryUptoCard
end Rows
end Go.Proofs.YtkbpcdhgicecfaaDoor
