/-
  DERIVED. GIVEN WITH THE SEED: THE CARDS: each row of YtnelcbbjnpaodaaDoorRows.lean that lists a variable, with what it lists TIED to the program's text (the seventh form; the later family's looks); each row that meets fmt, with fmt's text TOLD by the authors' own Lean function (tested against real Go, not proved from fmt's source: count such statements apart). THE CARD IS WHAT COUNTS. Prove the row's statement (the work); the ties are given (YtnelcbbjnpaodaaDoorTie.lean); close each card by the builder's one call (the guide's Derived/Test/ToyasCard.lean, 'card_holds'). Laid BY PROGRAM, IN A SANDBOX (cutbox-door.mjs). By AI agents, Wed Nov 11 2026. No macro, syntax, notation, axiom, sorry.
-/
import Derived.Test.YtnelcbbjnpaodaaDoorRows
import GoSem.ClaimSeven
namespace Go.Proofs.YtnelcbbjnpaodaaDoor
namespace Rows

/-- THE TIED CARD OF 'gannetlaw18.MmuMoves'. -/
def mmuMovesCard : Claim7 := { stood := { row := mmuMovesRow, standIns := [], harness := (true, "4f8131357f3a0e937f72e522cf65e05b27a402f884474f7736070c6485b30906"), looks := false }, kinds := [], alts := [], laidByText := true, laidKinds := [.data], laidTests := true, laidLooks := .later }
def MmuMovesCardSaid : Prop := Claim7.holds Tryd.pinned (.plain (OpenSpec.ofChange mmuMovesSpec)) mmuMovesCard

/-- THE TIED CARD OF 'gannetlaw18.MmuMaps'. -/
def mmuMapsCard : Claim7 := { stood := { row := mmuMapsRow, standIns := [], harness := (true, "4f8131357f3a0e937f72e522cf65e05b27a402f884474f7736070c6485b30906"), looks := false }, kinds := [], alts := [], laidByText := true, laidKinds := [.data], laidTests := true, laidLooks := .later }
def MmuMapsCardSaid : Prop := Claim7.holds Tryd.pinned (.plain (OpenSpec.ofChange mmuMapsSpec)) mmuMapsCard

/-- THE TIED CARD OF 'gannetlaw18.MmuBack'. -/
def mmuBackCard : Claim7 := { stood := { row := mmuBackRow, standIns := [], harness := (true, "4f8131357f3a0e937f72e522cf65e05b27a402f884474f7736070c6485b30906"), looks := false }, kinds := [], alts := [], laidByText := true, laidKinds := [.data], laidTests := true, laidLooks := .later }
def MmuBackCardSaid : Prop := Claim7.holds Tryd.pinned (.plain (OpenSpec.ofChange mmuBackSpec)) mmuBackCard

/-- THE TIED CARD OF 'gannetlaw18.MmuFixed'. -/
def mmuFixedCard : Claim7 := { stood := { row := mmuFixedRow, standIns := [], harness := (true, "4f8131357f3a0e937f72e522cf65e05b27a402f884474f7736070c6485b30906"), looks := false }, kinds := [], alts := [], laidByText := true, laidKinds := [.data], laidTests := true, laidLooks := .later }
def MmuFixedCardSaid : Prop := Claim7.holds Tryd.pinned (.plain (OpenSpec.ofChange mmuFixedSpec)) mmuFixedCard

/-- THE SECOND FORM's CARD OF 'gannetlaw18.MmuMoves'. -/
def mmuMovesUptoCard : Claim7 := { stood := { row := mmuMovesUptoRow, standIns := [], harness := (true, "4f8131357f3a0e937f72e522cf65e05b27a402f884474f7736070c6485b30906"), looks := false }, kinds := [], alts := [], laidByText := true, laidKinds := [.data], laidTests := true, laidLooks := .later }
def MmuMovesUptoCardSaid : Prop := Claim7.holds Tryd.pinned (.plain (OpenSpec.upto mmuMovesSpec)) mmuMovesUptoCard

/-- THE SECOND FORM's CARD OF 'gannetlaw18.MmuMaps'. -/
def mmuMapsUptoCard : Claim7 := { stood := { row := mmuMapsUptoRow, standIns := [], harness := (true, "4f8131357f3a0e937f72e522cf65e05b27a402f884474f7736070c6485b30906"), looks := false }, kinds := [], alts := [], laidByText := true, laidKinds := [.data], laidTests := true, laidLooks := .later }
def MmuMapsUptoCardSaid : Prop := Claim7.holds Tryd.pinned (.plain (OpenSpec.upto mmuMapsSpec)) mmuMapsUptoCard

/-- THE SECOND FORM's CARD OF 'gannetlaw18.MmuBack'. -/
def mmuBackUptoCard : Claim7 := { stood := { row := mmuBackUptoRow, standIns := [], harness := (true, "4f8131357f3a0e937f72e522cf65e05b27a402f884474f7736070c6485b30906"), looks := false }, kinds := [], alts := [], laidByText := true, laidKinds := [.data], laidTests := true, laidLooks := .later }
def MmuBackUptoCardSaid : Prop := Claim7.holds Tryd.pinned (.plain (OpenSpec.upto mmuBackSpec)) mmuBackUptoCard

/-- THE SECOND FORM's CARD OF 'gannetlaw18.MmuFixed'. -/
def mmuFixedUptoCard : Claim7 := { stood := { row := mmuFixedUptoRow, standIns := [], harness := (true, "4f8131357f3a0e937f72e522cf65e05b27a402f884474f7736070c6485b30906"), looks := false }, kinds := [], alts := [], laidByText := true, laidKinds := [.data], laidTests := true, laidLooks := .later }
def MmuFixedUptoCardSaid : Prop := Claim7.holds Tryd.pinned (.plain (OpenSpec.upto mmuFixedSpec)) mmuFixedUptoCard
end Rows
end Go.Proofs.YtnelcbbjnpaodaaDoor
