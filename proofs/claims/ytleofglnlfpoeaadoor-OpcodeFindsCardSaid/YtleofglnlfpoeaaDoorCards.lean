/-
  DERIVED. GIVEN WITH THE SEED: THE CARDS: each row of YtleofglnlfpoeaaDoorRows.lean that lists a variable, with what it lists TIED to the program's text (the seventh form; the later family's looks); each row that meets fmt, with fmt's text TOLD by the authors' own Lean function (tested against real Go, not proved from fmt's source: count such statements apart). THE CARD IS WHAT COUNTS. Prove the row's statement (the work); the ties are given (YtleofglnlfpoeaaDoorTie.lean); close each card by the builder's one call (the guide's Derived/Test/ToyasCard.lean, 'card_holds'). Laid BY PROGRAM, IN A SANDBOX (cutbox-door.mjs). By AI agents, Wed Nov 11 2026. No macro, syntax, notation, axiom, sorry.
-/
import Derived.Test.YtleofglnlfpoeaaDoorRows
import GoSem.ClaimSeven
namespace Go.Proofs.YtleofglnlfpoeaaDoor
namespace Rows

/-- THE TIED CARD OF 'gannetlaw23.OpcodeTells'. -/
def opcodeTellsCard : Claim7 := { stood := { row := opcodeTellsRow, standIns := [], harness := (true, "b2ad519cf26c67898444d4790e716a8febc65b0326401c4a6c33ae925c3ca0c2"), looks := false }, kinds := [], alts := [], laidByText := true, laidKinds := [.data, .pinned], laidTests := true, laidLooks := .later }
def OpcodeTellsCardSaid : Prop := Claim7.holds Tryd.pinned (.plain (OpenSpec.ofChange opcodeTellsSpec)) opcodeTellsCard

/-- THE TIED CARD OF 'gannetlaw23.OpcodeFinds'. -/
def opcodeFindsCard : Claim7 := { stood := { row := opcodeFindsRow, standIns := [], harness := (true, "b2ad519cf26c67898444d4790e716a8febc65b0326401c4a6c33ae925c3ca0c2"), looks := false }, kinds := [], alts := [], laidByText := true, laidKinds := [.data, .pinned], laidTests := true, laidLooks := .later }
def OpcodeFindsCardSaid : Prop := Claim7.holds Tryd.pinned (.plain (OpenSpec.ofChange opcodeFindsSpec)) opcodeFindsCard

/-- THE TIED CARD OF 'gannetlaw23.OpcodeNames'. -/
def opcodeNamesCard : Claim7 := { stood := { row := opcodeNamesRow, standIns := [], harness := (true, "b2ad519cf26c67898444d4790e716a8febc65b0326401c4a6c33ae925c3ca0c2"), looks := false }, kinds := [], alts := [], laidByText := true, laidKinds := [.data, .pinned], laidTests := true, laidLooks := .later }
def OpcodeNamesCardSaid : Prop := Claim7.holds Tryd.pinned (.plain (OpenSpec.ofChange opcodeNamesSpec)) opcodeNamesCard

/-- THE TIED CARD OF 'gannetlaw23.OpcodeWalks'. -/
def opcodeWalksCard : Claim7 := { stood := { row := opcodeWalksRow, standIns := [], harness := (true, "b2ad519cf26c67898444d4790e716a8febc65b0326401c4a6c33ae925c3ca0c2"), looks := false }, kinds := [], alts := [], laidByText := true, laidKinds := [.data, .pinned], laidTests := true, laidLooks := .later }
def OpcodeWalksCardSaid : Prop := Claim7.holds Tryd.pinned (.plain (OpenSpec.ofChange opcodeWalksSpec)) opcodeWalksCard

/-- THE TIED CARD OF 'gannetlaw23.OpcodeBack'. -/
def opcodeBackCard : Claim7 := { stood := { row := opcodeBackRow, standIns := [], harness := (true, "b2ad519cf26c67898444d4790e716a8febc65b0326401c4a6c33ae925c3ca0c2"), looks := false }, kinds := [], alts := [], laidByText := true, laidKinds := [.data, .pinned], laidTests := true, laidLooks := .later }
def OpcodeBackCardSaid : Prop := Claim7.holds Tryd.pinned (.plain (OpenSpec.ofChange opcodeBackSpec)) opcodeBackCard

/-- THE TIED CARD OF 'gannetlaw24.ModesFind'. -/
def modesFindCard : Claim7 := { stood := { row := modesFindRow, standIns := [], harness := (true, "b2ad519cf26c67898444d4790e716a8febc65b0326401c4a6c33ae925c3ca0c2"), looks := false }, kinds := [], alts := [], laidByText := true, laidKinds := [.data, .pinned], laidTests := true, laidLooks := .later }
def ModesFindCardSaid : Prop := Claim7.holds Tryd.pinned (.plain (OpenSpec.ofChange modesFindSpec)) modesFindCard

/-- THE TIED CARD OF 'gannetlaw24.ModesReach'. -/
def modesReachCard : Claim7 := { stood := { row := modesReachRow, standIns := [], harness := (true, "b2ad519cf26c67898444d4790e716a8febc65b0326401c4a6c33ae925c3ca0c2"), looks := false }, kinds := [], alts := [], laidByText := true, laidKinds := [.data, .pinned], laidTests := true, laidLooks := .later }
def ModesReachCardSaid : Prop := Claim7.holds Tryd.pinned (.plain (OpenSpec.ofChange modesReachSpec)) modesReachCard

/-- THE TIED CARD OF 'gannetlaw24.ModesText'. -/
def modesTextCard : Claim7 := { stood := { row := modesTextRow, standIns := [], harness := (true, "b2ad519cf26c67898444d4790e716a8febc65b0326401c4a6c33ae925c3ca0c2"), looks := false }, kinds := [], alts := [], laidByText := true, laidKinds := [.data, .pinned], laidTests := true, laidLooks := .later }
def ModesTextCardSaid : Prop := Claim7.holds Tryd.pinned (.plain (OpenSpec.ofChange modesTextSpec)) modesTextCard

/-- THE TIED CARD OF 'gannettop.TopListed'. -/
def topListedCard : Claim7 := { stood := { row := topListedRow, standIns := [], harness := (true, "b2ad519cf26c67898444d4790e716a8febc65b0326401c4a6c33ae925c3ca0c2"), looks := false }, kinds := [], alts := [], laidByText := true, laidKinds := [.data, .pinned], laidTests := true, laidLooks := .later }
def TopListedCardSaid : Prop := Claim7.holds Tryd.pinned (.plain (OpenSpec.ofChange topListedSpec)) topListedCard

/-- THE SECOND FORM's CARD OF 'gannetlaw23.OpcodeTells'. -/
def opcodeTellsUptoCard : Claim7 := { stood := { row := opcodeTellsUptoRow, standIns := [], harness := (true, "b2ad519cf26c67898444d4790e716a8febc65b0326401c4a6c33ae925c3ca0c2"), looks := false }, kinds := [], alts := [], laidByText := true, laidKinds := [.data, .pinned], laidTests := true, laidLooks := .later }
def OpcodeTellsUptoCardSaid : Prop := Claim7.holds Tryd.pinned (.plain (OpenSpec.upto opcodeTellsSpec)) opcodeTellsUptoCard

/-- THE SECOND FORM's CARD OF 'gannetlaw23.OpcodeFinds'. -/
def opcodeFindsUptoCard : Claim7 := { stood := { row := opcodeFindsUptoRow, standIns := [], harness := (true, "b2ad519cf26c67898444d4790e716a8febc65b0326401c4a6c33ae925c3ca0c2"), looks := false }, kinds := [], alts := [], laidByText := true, laidKinds := [.data, .pinned], laidTests := true, laidLooks := .later }
def OpcodeFindsUptoCardSaid : Prop := Claim7.holds Tryd.pinned (.plain (OpenSpec.upto opcodeFindsSpec)) opcodeFindsUptoCard

/-- THE SECOND FORM's CARD OF 'gannetlaw23.OpcodeNames'. -/
def opcodeNamesUptoCard : Claim7 := { stood := { row := opcodeNamesUptoRow, standIns := [], harness := (true, "b2ad519cf26c67898444d4790e716a8febc65b0326401c4a6c33ae925c3ca0c2"), looks := false }, kinds := [], alts := [], laidByText := true, laidKinds := [.data, .pinned], laidTests := true, laidLooks := .later }
def OpcodeNamesUptoCardSaid : Prop := Claim7.holds Tryd.pinned (.plain (OpenSpec.upto opcodeNamesSpec)) opcodeNamesUptoCard

/-- THE SECOND FORM's CARD OF 'gannetlaw23.OpcodeWalks'. -/
def opcodeWalksUptoCard : Claim7 := { stood := { row := opcodeWalksUptoRow, standIns := [], harness := (true, "b2ad519cf26c67898444d4790e716a8febc65b0326401c4a6c33ae925c3ca0c2"), looks := false }, kinds := [], alts := [], laidByText := true, laidKinds := [.data, .pinned], laidTests := true, laidLooks := .later }
def OpcodeWalksUptoCardSaid : Prop := Claim7.holds Tryd.pinned (.plain (OpenSpec.upto opcodeWalksSpec)) opcodeWalksUptoCard

/-- THE SECOND FORM's CARD OF 'gannetlaw23.OpcodeBack'. -/
def opcodeBackUptoCard : Claim7 := { stood := { row := opcodeBackUptoRow, standIns := [], harness := (true, "b2ad519cf26c67898444d4790e716a8febc65b0326401c4a6c33ae925c3ca0c2"), looks := false }, kinds := [], alts := [], laidByText := true, laidKinds := [.data, .pinned], laidTests := true, laidLooks := .later }
def OpcodeBackUptoCardSaid : Prop := Claim7.holds Tryd.pinned (.plain (OpenSpec.upto opcodeBackSpec)) opcodeBackUptoCard

/-- THE SECOND FORM's CARD OF 'gannetlaw24.ModesFind'. -/
def modesFindUptoCard : Claim7 := { stood := { row := modesFindUptoRow, standIns := [], harness := (true, "b2ad519cf26c67898444d4790e716a8febc65b0326401c4a6c33ae925c3ca0c2"), looks := false }, kinds := [], alts := [], laidByText := true, laidKinds := [.data, .pinned], laidTests := true, laidLooks := .later }
def ModesFindUptoCardSaid : Prop := Claim7.holds Tryd.pinned (.plain (OpenSpec.upto modesFindSpec)) modesFindUptoCard

/-- THE SECOND FORM's CARD OF 'gannetlaw24.ModesReach'. -/
def modesReachUptoCard : Claim7 := { stood := { row := modesReachUptoRow, standIns := [], harness := (true, "b2ad519cf26c67898444d4790e716a8febc65b0326401c4a6c33ae925c3ca0c2"), looks := false }, kinds := [], alts := [], laidByText := true, laidKinds := [.data, .pinned], laidTests := true, laidLooks := .later }
def ModesReachUptoCardSaid : Prop := Claim7.holds Tryd.pinned (.plain (OpenSpec.upto modesReachSpec)) modesReachUptoCard

/-- THE SECOND FORM's CARD OF 'gannetlaw24.ModesText'. -/
def modesTextUptoCard : Claim7 := { stood := { row := modesTextUptoRow, standIns := [], harness := (true, "b2ad519cf26c67898444d4790e716a8febc65b0326401c4a6c33ae925c3ca0c2"), looks := false }, kinds := [], alts := [], laidByText := true, laidKinds := [.data, .pinned], laidTests := true, laidLooks := .later }
def ModesTextUptoCardSaid : Prop := Claim7.holds Tryd.pinned (.plain (OpenSpec.upto modesTextSpec)) modesTextUptoCard

/-- THE SECOND FORM's CARD OF 'gannettop.TopListed'. -/
def topListedUptoCard : Claim7 := { stood := { row := topListedUptoRow, standIns := [], harness := (true, "b2ad519cf26c67898444d4790e716a8febc65b0326401c4a6c33ae925c3ca0c2"), looks := false }, kinds := [], alts := [], laidByText := true, laidKinds := [.data, .pinned], laidTests := true, laidLooks := .later }
def TopListedUptoCardSaid : Prop := Claim7.holds Tryd.pinned (.plain (OpenSpec.upto topListedSpec)) topListedUptoCard
end Rows
end Go.Proofs.YtleofglnlfpoeaaDoor
