/-
  DERIVED. GIVEN WITH THE SEED: THE CARDS: each row of YtaamfcbpelbboaaDoorRows.lean that lists a variable, with what it lists TIED to the program's text (the seventh form; the later family's looks); each row that meets fmt, with fmt's text TOLD by the authors' own Lean function (tested against real Go, not proved from fmt's source: count such statements apart). THE CARD IS WHAT COUNTS. Prove the row's statement (the work); the ties are given (YtaamfcbpelbboaaDoorTie.lean); close each card by the builder's one call (the guide's Derived/Test/ToyasCard.lean, 'card_holds'). Laid BY PROGRAM, IN A SANDBOX (cutbox-door.mjs). By AI agents, Wed Nov 11 2026. No macro, syntax, notation, axiom, sorry.
-/
import Derived.Test.YtaamfcbpelbboaaDoorRows
import GoSem.ClaimSeven
namespace Go.Proofs.YtaamfcbpelbboaaDoor
namespace Rows

/-- THE TIED CARD OF 'gannetlaw16.MixPowers'. -/
def mixPowersCard : Claim7 := { stood := { row := mixPowersRow, standIns := [], harness := (true, "676142780e278442e7efdf36805daf0081014306cf65871052f022857101101c"), looks := false }, kinds := [], alts := [], laidByText := true, laidKinds := [.data, .data], laidTests := true, laidLooks := .later }
def MixPowersCardSaid : Prop := Claim7.holds Tryd.pinned (.plain (OpenSpec.ofChange mixPowersSpec)) mixPowersCard

/-- THE TIED CARD OF 'gannetlaw16.MixSums'. -/
def mixSumsCard : Claim7 := { stood := { row := mixSumsRow, standIns := [], harness := (true, "676142780e278442e7efdf36805daf0081014306cf65871052f022857101101c"), looks := false }, kinds := [], alts := [], laidByText := true, laidKinds := [.data, .data], laidTests := true, laidLooks := .later }
def MixSumsCardSaid : Prop := Claim7.holds Tryd.pinned (.plain (OpenSpec.ofChange mixSumsSpec)) mixSumsCard

/-- THE TIED CARD OF 'gannetlaw16.MixTurns'. -/
def mixTurnsCard : Claim7 := { stood := { row := mixTurnsRow, standIns := [], harness := (true, "676142780e278442e7efdf36805daf0081014306cf65871052f022857101101c"), looks := false }, kinds := [], alts := [], laidByText := true, laidKinds := [.data, .data], laidTests := true, laidLooks := .later }
def MixTurnsCardSaid : Prop := Claim7.holds Tryd.pinned (.plain (OpenSpec.ofChange mixTurnsSpec)) mixTurnsCard

/-- THE TIED CARD OF 'gannetlaw16.MixChannels'. -/
def mixChannelsCard : Claim7 := { stood := { row := mixChannelsRow, standIns := [], harness := (true, "676142780e278442e7efdf36805daf0081014306cf65871052f022857101101c"), looks := false }, kinds := [], alts := [], laidByText := true, laidKinds := [.data, .data], laidTests := true, laidLooks := .later }
def MixChannelsCardSaid : Prop := Claim7.holds Tryd.pinned (.plain (OpenSpec.ofChange mixChannelsSpec)) mixChannelsCard

/-- THE TIED CARD OF 'gannetlaw16.MixMiddle'. -/
def mixMiddleCard : Claim7 := { stood := { row := mixMiddleRow, standIns := [], harness := (true, "676142780e278442e7efdf36805daf0081014306cf65871052f022857101101c"), looks := false }, kinds := [], alts := [], laidByText := true, laidKinds := [.data, .data], laidTests := true, laidLooks := .later }
def MixMiddleCardSaid : Prop := Claim7.holds Tryd.pinned (.plain (OpenSpec.ofChange mixMiddleSpec)) mixMiddleCard

/-- THE TIED CARD OF 'gannettop.TopSides'. -/
def topSidesCard : Claim7 := { stood := { row := topSidesRow, standIns := [], harness := (true, "676142780e278442e7efdf36805daf0081014306cf65871052f022857101101c"), looks := false }, kinds := [], alts := [], laidByText := true, laidKinds := [.data, .data], laidTests := true, laidLooks := .later }
def TopSidesCardSaid : Prop := Claim7.holds Tryd.pinned (.plain (OpenSpec.ofChange topSidesSpec)) topSidesCard

/-- THE SECOND FORM's CARD OF 'gannetlaw16.MixPowers'. -/
def mixPowersUptoCard : Claim7 := { stood := { row := mixPowersUptoRow, standIns := [], harness := (true, "676142780e278442e7efdf36805daf0081014306cf65871052f022857101101c"), looks := false }, kinds := [], alts := [], laidByText := true, laidKinds := [.data, .data], laidTests := true, laidLooks := .later }
def MixPowersUptoCardSaid : Prop := Claim7.holds Tryd.pinned (.plain (OpenSpec.upto mixPowersSpec)) mixPowersUptoCard

/-- THE SECOND FORM's CARD OF 'gannetlaw16.MixSums'. -/
def mixSumsUptoCard : Claim7 := { stood := { row := mixSumsUptoRow, standIns := [], harness := (true, "676142780e278442e7efdf36805daf0081014306cf65871052f022857101101c"), looks := false }, kinds := [], alts := [], laidByText := true, laidKinds := [.data, .data], laidTests := true, laidLooks := .later }
def MixSumsUptoCardSaid : Prop := Claim7.holds Tryd.pinned (.plain (OpenSpec.upto mixSumsSpec)) mixSumsUptoCard

/-- THE SECOND FORM's CARD OF 'gannetlaw16.MixTurns'. -/
def mixTurnsUptoCard : Claim7 := { stood := { row := mixTurnsUptoRow, standIns := [], harness := (true, "676142780e278442e7efdf36805daf0081014306cf65871052f022857101101c"), looks := false }, kinds := [], alts := [], laidByText := true, laidKinds := [.data, .data], laidTests := true, laidLooks := .later }
def MixTurnsUptoCardSaid : Prop := Claim7.holds Tryd.pinned (.plain (OpenSpec.upto mixTurnsSpec)) mixTurnsUptoCard

/-- THE SECOND FORM's CARD OF 'gannetlaw16.MixChannels'. -/
def mixChannelsUptoCard : Claim7 := { stood := { row := mixChannelsUptoRow, standIns := [], harness := (true, "676142780e278442e7efdf36805daf0081014306cf65871052f022857101101c"), looks := false }, kinds := [], alts := [], laidByText := true, laidKinds := [.data, .data], laidTests := true, laidLooks := .later }
def MixChannelsUptoCardSaid : Prop := Claim7.holds Tryd.pinned (.plain (OpenSpec.upto mixChannelsSpec)) mixChannelsUptoCard

/-- THE SECOND FORM's CARD OF 'gannetlaw16.MixMiddle'. -/
def mixMiddleUptoCard : Claim7 := { stood := { row := mixMiddleUptoRow, standIns := [], harness := (true, "676142780e278442e7efdf36805daf0081014306cf65871052f022857101101c"), looks := false }, kinds := [], alts := [], laidByText := true, laidKinds := [.data, .data], laidTests := true, laidLooks := .later }
def MixMiddleUptoCardSaid : Prop := Claim7.holds Tryd.pinned (.plain (OpenSpec.upto mixMiddleSpec)) mixMiddleUptoCard

/-- THE SECOND FORM's CARD OF 'gannettop.TopSides'. -/
def topSidesUptoCard : Claim7 := { stood := { row := topSidesUptoRow, standIns := [], harness := (true, "676142780e278442e7efdf36805daf0081014306cf65871052f022857101101c"), looks := false }, kinds := [], alts := [], laidByText := true, laidKinds := [.data, .data], laidTests := true, laidLooks := .later }
def TopSidesUptoCardSaid : Prop := Claim7.holds Tryd.pinned (.plain (OpenSpec.upto topSidesSpec)) topSidesUptoCard
end Rows
end Go.Proofs.YtaamfcbpelbboaaDoor
