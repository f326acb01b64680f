/-
  DERIVED. GIVEN WITH THE SEED: THE CARDS: each row of YtdfjpdcnjjgljaaDoorRows.lean that lists a variable, with what it lists TIED to the program's text (the seventh form; the later family's looks); each row that meets fmt, with fmt's text TOLD by the authors' own Lean function (tested against real Go, not proved from fmt's source: count such statements apart). THE CARD IS WHAT COUNTS. Prove the row's statement (the work); the ties are given (YtdfjpdcnjjgljaaDoorTie.lean); close each card by the builder's one call (the guide's Derived/Test/ToyasCard.lean, 'card_holds'). Laid BY PROGRAM, IN A SANDBOX (cutbox-door.mjs). By AI agents, Wed Nov 11 2026. No macro, syntax, notation, axiom, sorry.
-/
import Derived.Test.YtdfjpdcnjjgljaaDoorRows
import GoSem.ClaimSeven
namespace Go.Proofs.YtdfjpdcnjjgljaaDoor
namespace Rows

/-- THE TIED CARD OF 'gannetlaw25.StateBytes'. -/
def stateBytesCard : Claim7 := { stood := { row := stateBytesRow, standIns := [], harness := (true, "d3d86a8d7bdad46c8f9a762b8ed800268bfcc758bd6fcc3f8833434178d7b3db"), looks := false }, kinds := [], alts := [], laidByText := true, laidKinds := [.data, .data, .data], laidTests := true, laidLooks := .later }
def StateBytesCardSaid : Prop := Claim7.holds Tryd.pinned (.plain (OpenSpec.ofChange stateBytesSpec)) stateBytesCard

/-- THE TIED CARD OF 'gannetlaw25.StateTexts'. -/
def stateTextsCard : Claim7 := { stood := { row := stateTextsRow, standIns := [], harness := (true, "d3d86a8d7bdad46c8f9a762b8ed800268bfcc758bd6fcc3f8833434178d7b3db"), looks := false }, kinds := [], alts := [], laidByText := true, laidKinds := [.data, .data, .data], laidTests := true, laidLooks := .later }
def StateTextsCardSaid : Prop := Claim7.holds Tryd.pinned (.plain (OpenSpec.ofChange stateTextsSpec)) stateTextsCard

/-- THE TIED CARD OF 'gannetlaw25.StateNames'. -/
def stateNamesCard : Claim7 := { stood := { row := stateNamesRow, standIns := [], harness := (true, "d3d86a8d7bdad46c8f9a762b8ed800268bfcc758bd6fcc3f8833434178d7b3db"), looks := false }, kinds := [], alts := [], laidByText := true, laidKinds := [.data, .data, .data], laidTests := true, laidLooks := .later }
def StateNamesCardSaid : Prop := Claim7.holds Tryd.pinned (.plain (OpenSpec.ofChange stateNamesSpec)) stateNamesCard

/-- THE TIED CARD OF 'gannetlaw25.StateSets'. -/
def stateSetsCard : Claim7 := { stood := { row := stateSetsRow, standIns := [], harness := (true, "d3d86a8d7bdad46c8f9a762b8ed800268bfcc758bd6fcc3f8833434178d7b3db"), looks := false }, kinds := [], alts := [], laidByText := true, laidKinds := [.data, .data, .data], laidTests := true, laidLooks := .later }
def StateSetsCardSaid : Prop := Claim7.holds Tryd.pinned (.plain (OpenSpec.ofChange stateSetsSpec)) stateSetsCard

/-- THE TIED CARD OF 'gannetlaw26.MovesWays'. -/
def movesWaysCard : Claim7 := { stood := { row := movesWaysRow, standIns := [], harness := (true, "d3d86a8d7bdad46c8f9a762b8ed800268bfcc758bd6fcc3f8833434178d7b3db"), looks := false }, kinds := [], alts := [], laidByText := true, laidKinds := [.data], laidTests := true, laidLooks := .later }
def MovesWaysCardSaid : Prop := Claim7.holds Tryd.pinned (.plain (OpenSpec.ofChange movesWaysSpec)) movesWaysCard

/-- THE TIED CARD OF 'gannetlaw26.MovesApply'. -/
def movesApplyCard : Claim7 := { stood := { row := movesApplyRow, standIns := [], harness := (true, "d3d86a8d7bdad46c8f9a762b8ed800268bfcc758bd6fcc3f8833434178d7b3db"), looks := false }, kinds := [], alts := [], laidByText := true, laidKinds := [.data], laidTests := true, laidLooks := .later }
def MovesApplyCardSaid : Prop := Claim7.holds Tryd.pinned (.plain (OpenSpec.ofChange movesApplySpec)) movesApplyCard

/-- THE TIED CARD OF 'gannetlaw26.MovesCopies'. -/
def movesCopiesCard : Claim7 := { stood := { row := movesCopiesRow, standIns := [], harness := (true, "d3d86a8d7bdad46c8f9a762b8ed800268bfcc758bd6fcc3f8833434178d7b3db"), looks := false }, kinds := [], alts := [], laidByText := true, laidKinds := [.data], laidTests := true, laidLooks := .later }
def MovesCopiesCardSaid : Prop := Claim7.holds Tryd.pinned (.plain (OpenSpec.ofChange movesCopiesSpec)) movesCopiesCard

/-- THE TIED CARD OF 'gannetlaw26.MovesParts'. -/
def movesPartsCard : Claim7 := { stood := { row := movesPartsRow, standIns := [], harness := (true, "d3d86a8d7bdad46c8f9a762b8ed800268bfcc758bd6fcc3f8833434178d7b3db"), looks := false }, kinds := [], alts := [], laidByText := true, laidKinds := [.data], laidTests := true, laidLooks := .later }
def MovesPartsCardSaid : Prop := Claim7.holds Tryd.pinned (.plain (OpenSpec.ofChange movesPartsSpec)) movesPartsCard

/-- THE SECOND FORM's CARD OF 'gannetlaw25.StateBytes'. -/
def stateBytesUptoCard : Claim7 := { stood := { row := stateBytesUptoRow, standIns := [], harness := (true, "d3d86a8d7bdad46c8f9a762b8ed800268bfcc758bd6fcc3f8833434178d7b3db"), looks := false }, kinds := [], alts := [], laidByText := true, laidKinds := [.data, .data, .data], laidTests := true, laidLooks := .later }
def StateBytesUptoCardSaid : Prop := Claim7.holds Tryd.pinned (.plain (OpenSpec.upto stateBytesSpec)) stateBytesUptoCard

/-- THE SECOND FORM's CARD OF 'gannetlaw25.StateTexts'. -/
def stateTextsUptoCard : Claim7 := { stood := { row := stateTextsUptoRow, standIns := [], harness := (true, "d3d86a8d7bdad46c8f9a762b8ed800268bfcc758bd6fcc3f8833434178d7b3db"), looks := false }, kinds := [], alts := [], laidByText := true, laidKinds := [.data, .data, .data], laidTests := true, laidLooks := .later }
def StateTextsUptoCardSaid : Prop := Claim7.holds Tryd.pinned (.plain (OpenSpec.upto stateTextsSpec)) stateTextsUptoCard

/-- THE SECOND FORM's CARD OF 'gannetlaw25.StateNames'. -/
def stateNamesUptoCard : Claim7 := { stood := { row := stateNamesUptoRow, standIns := [], harness := (true, "d3d86a8d7bdad46c8f9a762b8ed800268bfcc758bd6fcc3f8833434178d7b3db"), looks := false }, kinds := [], alts := [], laidByText := true, laidKinds := [.data, .data, .data], laidTests := true, laidLooks := .later }
def StateNamesUptoCardSaid : Prop := Claim7.holds Tryd.pinned (.plain (OpenSpec.upto stateNamesSpec)) stateNamesUptoCard

/-- THE SECOND FORM's CARD OF 'gannetlaw25.StateSets'. -/
def stateSetsUptoCard : Claim7 := { stood := { row := stateSetsUptoRow, standIns := [], harness := (true, "d3d86a8d7bdad46c8f9a762b8ed800268bfcc758bd6fcc3f8833434178d7b3db"), looks := false }, kinds := [], alts := [], laidByText := true, laidKinds := [.data, .data, .data], laidTests := true, laidLooks := .later }
def StateSetsUptoCardSaid : Prop := Claim7.holds Tryd.pinned (.plain (OpenSpec.upto stateSetsSpec)) stateSetsUptoCard

/-- THE SECOND FORM's CARD OF 'gannetlaw26.MovesWays'. -/
def movesWaysUptoCard : Claim7 := { stood := { row := movesWaysUptoRow, standIns := [], harness := (true, "d3d86a8d7bdad46c8f9a762b8ed800268bfcc758bd6fcc3f8833434178d7b3db"), looks := false }, kinds := [], alts := [], laidByText := true, laidKinds := [.data], laidTests := true, laidLooks := .later }
def MovesWaysUptoCardSaid : Prop := Claim7.holds Tryd.pinned (.plain (OpenSpec.upto movesWaysSpec)) movesWaysUptoCard

/-- THE SECOND FORM's CARD OF 'gannetlaw26.MovesApply'. -/
def movesApplyUptoCard : Claim7 := { stood := { row := movesApplyUptoRow, standIns := [], harness := (true, "d3d86a8d7bdad46c8f9a762b8ed800268bfcc758bd6fcc3f8833434178d7b3db"), looks := false }, kinds := [], alts := [], laidByText := true, laidKinds := [.data], laidTests := true, laidLooks := .later }
def MovesApplyUptoCardSaid : Prop := Claim7.holds Tryd.pinned (.plain (OpenSpec.upto movesApplySpec)) movesApplyUptoCard

/-- THE SECOND FORM's CARD OF 'gannetlaw26.MovesCopies'. -/
def movesCopiesUptoCard : Claim7 := { stood := { row := movesCopiesUptoRow, standIns := [], harness := (true, "d3d86a8d7bdad46c8f9a762b8ed800268bfcc758bd6fcc3f8833434178d7b3db"), looks := false }, kinds := [], alts := [], laidByText := true, laidKinds := [.data], laidTests := true, laidLooks := .later }
def MovesCopiesUptoCardSaid : Prop := Claim7.holds Tryd.pinned (.plain (OpenSpec.upto movesCopiesSpec)) movesCopiesUptoCard

/-- THE SECOND FORM's CARD OF 'gannetlaw26.MovesParts'. -/
def movesPartsUptoCard : Claim7 := { stood := { row := movesPartsUptoRow, standIns := [], harness := (true, "d3d86a8d7bdad46c8f9a762b8ed800268bfcc758bd6fcc3f8833434178d7b3db"), looks := false }, kinds := [], alts := [], laidByText := true, laidKinds := [.data], laidTests := true, laidLooks := .later }
def MovesPartsUptoCardSaid : Prop := Claim7.holds Tryd.pinned (.plain (OpenSpec.upto movesPartsSpec)) movesPartsUptoCard
end Rows
end Go.Proofs.YtdfjpdcnjjgljaaDoor
