/-
  DERIVED. GIVEN WITH THE SEED: THE CARDS: each row of YtccimkmlbcgekaaDoorRows.lean that lists a variable, with what it lists TIED to the program's text (the seventh form; the later family's looks); each row that meets fmt, with fmt's text TOLD by the authors' own Lean function (tested against real Go, not proved from fmt's source: count such statements apart). THE CARD IS WHAT COUNTS. Prove the row's statement (the work); the ties are given (YtccimkmlbcgekaaDoorTie.lean); close each card by the builder's one call (the guide's Derived/Test/ToyasCard.lean, 'card_holds'). Laid BY PROGRAM, IN A SANDBOX (cutbox-door.mjs). By AI agents, Wed Nov 11 2026. No macro, syntax, notation, axiom, sorry.
-/
import Derived.Test.YtccimkmlbcgekaaDoorRows
import GoSem.ClaimSeven
namespace Go.Proofs.YtccimkmlbcgekaaDoor
namespace Rows

/-- THE TIED CARD OF 'gannetlaw18.MmuMoves'. -/
def mmuMovesCard : Claim7 := { stood := { row := mmuMovesRow, standIns := [], harness := (true, "b530da7a3178eb5ee7ea49705f2a05766e0bd88674c5ce76be66b7e84174a3c6"), looks := false }, kinds := [], alts := [], laidByText := true, laidKinds := [.data], laidTests := true, laidLooks := .later }
def MmuMovesCardSaid : Prop := Claim7.holds Tryd.pinned (.plain (OpenSpec.ofChange mmuMovesSpec)) mmuMovesCard

/-- THE TIED CARD OF 'gannetlaw18.MmuMaps'. -/
def mmuMapsCard : Claim7 := { stood := { row := mmuMapsRow, standIns := [], harness := (true, "b530da7a3178eb5ee7ea49705f2a05766e0bd88674c5ce76be66b7e84174a3c6"), looks := false }, kinds := [], alts := [], laidByText := true, laidKinds := [.data], laidTests := true, laidLooks := .later }
def MmuMapsCardSaid : Prop := Claim7.holds Tryd.pinned (.plain (OpenSpec.ofChange mmuMapsSpec)) mmuMapsCard

/-- THE TIED CARD OF 'gannetlaw20.FlagsParts'. -/
def flagsPartsCard : Claim7 := { stood := { row := flagsPartsRow, standIns := [], harness := (true, "b530da7a3178eb5ee7ea49705f2a05766e0bd88674c5ce76be66b7e84174a3c6"), looks := false }, kinds := [], alts := [], laidByText := true, laidKinds := [.data], laidTests := true, laidLooks := .later }
def FlagsPartsCardSaid : Prop := Claim7.holds Tryd.pinned (.plain (OpenSpec.ofChange flagsPartsSpec)) flagsPartsCard

/-- THE TIED CARD OF 'gannetlaw20.FlagsTexts'. -/
def flagsTextsCard : Claim7 := { stood := { row := flagsTextsRow, standIns := [], harness := (true, "b530da7a3178eb5ee7ea49705f2a05766e0bd88674c5ce76be66b7e84174a3c6"), looks := false }, kinds := [], alts := [], laidByText := true, laidKinds := [.data], laidTests := true, laidLooks := .later }
def FlagsTextsCardSaid : Prop := Claim7.holds Tryd.pinned (.plain (OpenSpec.ofChange flagsTextsSpec)) flagsTextsCard

/-- THE TIED CARD OF 'gannetlaw20.FlagsMoves'. -/
def flagsMovesCard : Claim7 := { stood := { row := flagsMovesRow, standIns := [], harness := (true, "b530da7a3178eb5ee7ea49705f2a05766e0bd88674c5ce76be66b7e84174a3c6"), looks := false }, kinds := [], alts := [], laidByText := true, laidKinds := [.data], laidTests := true, laidLooks := .later }
def FlagsMovesCardSaid : Prop := Claim7.holds Tryd.pinned (.plain (OpenSpec.ofChange flagsMovesSpec)) flagsMovesCard

/-- THE SECOND FORM's CARD OF 'gannetlaw18.MmuMoves'. -/
def mmuMovesUptoCard : Claim7 := { stood := { row := mmuMovesUptoRow, standIns := [], harness := (true, "b530da7a3178eb5ee7ea49705f2a05766e0bd88674c5ce76be66b7e84174a3c6"), looks := false }, kinds := [], alts := [], laidByText := true, laidKinds := [.data], laidTests := true, laidLooks := .later }
def MmuMovesUptoCardSaid : Prop := Claim7.holds Tryd.pinned (.plain (OpenSpec.upto mmuMovesSpec)) mmuMovesUptoCard

/-- THE SECOND FORM's CARD OF 'gannetlaw18.MmuMaps'. -/
def mmuMapsUptoCard : Claim7 := { stood := { row := mmuMapsUptoRow, standIns := [], harness := (true, "b530da7a3178eb5ee7ea49705f2a05766e0bd88674c5ce76be66b7e84174a3c6"), looks := false }, kinds := [], alts := [], laidByText := true, laidKinds := [.data], laidTests := true, laidLooks := .later }
def MmuMapsUptoCardSaid : Prop := Claim7.holds Tryd.pinned (.plain (OpenSpec.upto mmuMapsSpec)) mmuMapsUptoCard

/-- THE SECOND FORM's CARD OF 'gannetlaw20.FlagsParts'. -/
def flagsPartsUptoCard : Claim7 := { stood := { row := flagsPartsUptoRow, standIns := [], harness := (true, "b530da7a3178eb5ee7ea49705f2a05766e0bd88674c5ce76be66b7e84174a3c6"), looks := false }, kinds := [], alts := [], laidByText := true, laidKinds := [.data], laidTests := true, laidLooks := .later }
def FlagsPartsUptoCardSaid : Prop := Claim7.holds Tryd.pinned (.plain (OpenSpec.upto flagsPartsSpec)) flagsPartsUptoCard

/-- THE SECOND FORM's CARD OF 'gannetlaw20.FlagsTexts'. -/
def flagsTextsUptoCard : Claim7 := { stood := { row := flagsTextsUptoRow, standIns := [], harness := (true, "b530da7a3178eb5ee7ea49705f2a05766e0bd88674c5ce76be66b7e84174a3c6"), looks := false }, kinds := [], alts := [], laidByText := true, laidKinds := [.data], laidTests := true, laidLooks := .later }
def FlagsTextsUptoCardSaid : Prop := Claim7.holds Tryd.pinned (.plain (OpenSpec.upto flagsTextsSpec)) flagsTextsUptoCard

/-- THE SECOND FORM's CARD OF 'gannetlaw20.FlagsMoves'. -/
def flagsMovesUptoCard : Claim7 := { stood := { row := flagsMovesUptoRow, standIns := [], harness := (true, "b530da7a3178eb5ee7ea49705f2a05766e0bd88674c5ce76be66b7e84174a3c6"), looks := false }, kinds := [], alts := [], laidByText := true, laidKinds := [.data], laidTests := true, laidLooks := .later }
def FlagsMovesUptoCardSaid : Prop := Claim7.holds Tryd.pinned (.plain (OpenSpec.upto flagsMovesSpec)) flagsMovesUptoCard
end Rows
end Go.Proofs.YtccimkmlbcgekaaDoor
