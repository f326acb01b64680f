/-
  DERIVED. GIVEN WITH THE SEED: THE CARDS: each row of YtndhkdcdhpfajaaDoorRows.lean that lists a variable, with what it lists TIED to the program's text (the seventh form; the later family's looks); each row that meets fmt, with fmt's text TOLD by the authors' own Lean function (tested against real Go, not proved from fmt's source: count such statements apart). THE CARD IS WHAT COUNTS. Prove the row's statement (the work); the ties are given (YtndhkdcdhpfajaaDoorTie.lean); close each card by the builder's one call (the guide's Derived/Test/ToyasCard.lean, 'card_holds'). Laid BY PROGRAM, IN A SANDBOX (cutbox-door.mjs). By AI agents, Wed Nov 11 2026. No macro, syntax, notation, axiom, sorry.
-/
import Derived.Test.YtndhkdcdhpfajaaDoorRows
import GoSem.ClaimSeven
namespace Go.Proofs.YtndhkdcdhpfajaaDoor
namespace Rows

/-- THE TIED CARD OF 'gannetlaw31.BurstGoes'. -/
def burstGoesCard : Claim7 := { stood := { row := burstGoesRow, standIns := [], harness := (true, "8f9002b3aa0b16bedac04b2b3fc5ce28f8588f9ecf2cd43d196d3065a6afdd12"), looks := false }, kinds := [], alts := [], laidByText := true, laidKinds := [.data], laidTests := true, laidLooks := .later }
def BurstGoesCardSaid : Prop := Claim7.holds Tryd.pinned (.plain (OpenSpec.ofChange burstGoesSpec)) burstGoesCard

/-- THE TIED CARD OF 'gannetlaw31.BurstMoves'. -/
def burstMovesCard : Claim7 := { stood := { row := burstMovesRow, standIns := [], harness := (true, "8f9002b3aa0b16bedac04b2b3fc5ce28f8588f9ecf2cd43d196d3065a6afdd12"), looks := false }, kinds := [], alts := [], laidByText := true, laidKinds := [.data], laidTests := true, laidLooks := .later }
def BurstMovesCardSaid : Prop := Claim7.holds Tryd.pinned (.plain (OpenSpec.ofChange burstMovesSpec)) burstMovesCard

/-- THE SECOND FORM's CARD OF 'gannetlaw31.BurstGoes'. -/
def burstGoesUptoCard : Claim7 := { stood := { row := burstGoesUptoRow, standIns := [], harness := (true, "8f9002b3aa0b16bedac04b2b3fc5ce28f8588f9ecf2cd43d196d3065a6afdd12"), looks := false }, kinds := [], alts := [], laidByText := true, laidKinds := [.data], laidTests := true, laidLooks := .later }
def BurstGoesUptoCardSaid : Prop := Claim7.holds Tryd.pinned (.plain (OpenSpec.upto burstGoesSpec)) burstGoesUptoCard

/-- THE SECOND FORM's CARD OF 'gannetlaw31.BurstMoves'. -/
def burstMovesUptoCard : Claim7 := { stood := { row := burstMovesUptoRow, standIns := [], harness := (true, "8f9002b3aa0b16bedac04b2b3fc5ce28f8588f9ecf2cd43d196d3065a6afdd12"), looks := false }, kinds := [], alts := [], laidByText := true, laidKinds := [.data], laidTests := true, laidLooks := .later }
def BurstMovesUptoCardSaid : Prop := Claim7.holds Tryd.pinned (.plain (OpenSpec.upto burstMovesSpec)) burstMovesUptoCard
end Rows
end Go.Proofs.YtndhkdcdhpfajaaDoor
