/-
  DERIVED. GIVEN WITH THE SEED: THE CARDS: each row of YtkmcfmflihkdjaaDoorRows.lean that lists a variable, with what it lists TIED to the program's text (the seventh form; the later family's looks); each row that meets fmt, with fmt's text TOLD by the authors' own Lean function (tested against real Go, not proved from fmt's source: count such statements apart). THE CARD IS WHAT COUNTS. Prove the row's statement (the work); the ties are given (YtkmcfmflihkdjaaDoorTie.lean); close each card by the builder's one call (the guide's Derived/Test/ToyasCard.lean, 'card_holds'). Laid BY PROGRAM, IN A SANDBOX (cutbox-door.mjs). By AI agents, Wed Nov 11 2026. No macro, syntax, notation, axiom, sorry.
-/
import Derived.Test.YtkmcfmflihkdjaaDoorRows
import GoSem.ClaimSeven
namespace Go.Proofs.YtkmcfmflihkdjaaDoor
namespace Rows

/-- THE TIED CARD OF 'gannettop.TopProduct'. -/
def topProductCard : Claim7 := { stood := { row := topProductRow, standIns := [], harness := (true, "f4dbd98f8bd266381bd918f4e9f8d61a274e3fa2c2b06233de39405c904692fa"), looks := false }, kinds := [], alts := [], laidByText := true, laidKinds := [.data], laidTests := true, laidLooks := .later }
def TopProductCardSaid : Prop := Claim7.holds Tryd.pinned (.plain (OpenSpec.ofChange topProductSpec)) topProductCard

/-- THE SECOND FORM's CARD OF 'gannettop.TopProduct'. -/
def topProductUptoCard : Claim7 := { stood := { row := topProductUptoRow, standIns := [], harness := (true, "f4dbd98f8bd266381bd918f4e9f8d61a274e3fa2c2b06233de39405c904692fa"), looks := false }, kinds := [], alts := [], laidByText := true, laidKinds := [.data], laidTests := true, laidLooks := .later }
def TopProductUptoCardSaid : Prop := Claim7.holds Tryd.pinned (.plain (OpenSpec.upto topProductSpec)) topProductUptoCard
end Rows
end Go.Proofs.YtkmcfmflihkdjaaDoor
