/-
  DERIVED. GIVEN WITH THE SEED: THE CARDS: each row of YtmbbcfdeielopaaDoorRRRRRows.lean that lists a variable, with what it lists TIED to the program's text (the seventh form; the later family's looks); each row that meets fmt, with fmt's text TOLD by the authors' own Lean function (tested against real Go, not proved from fmt's source: count such statements apart). THE CARD IS WHAT COUNTS. Prove the row's statement (the work); the ties are given (YtmbbcfdeielopaaDoorRRRRTie.lean); close each card by the builder's one call (the guide's Derived/Test/ToyasCard.lean, 'card_holds'). Laid BY PROGRAM, IN A SANDBOX (cutbox-door.mjs). By AI agents, Wed Nov 11 2026. No macro, syntax, notation, axiom, sorry.
-/
import Derived.Test.YtmbbcfdeielopaaDoorRRRRRows
import GoSem.ClaimSeven
namespace Go.Proofs.YtmbbcfdeielopaaDoorRRRR
namespace Rows

/-- THE TIED CARD OF 'gannetlaw29.TimingLists'. -/
def timingListsCard : Claim7 := { stood := { row := timingListsRow, standIns := [], harness := (true, "21af1c897c3b585f2db933986aec2edf37a4f89e58897b58bad58cd586d2364f"), looks := false }, kinds := [], alts := [], laidByText := true, laidKinds := [.data, .pinned], laidTests := true, laidLooks := .later }
def TimingListsCardSaid : Prop := Claim7.holds Tryd.pinned (.plain (OpenSpec.ofChange timingListsSpec)) timingListsCard

/-- THE TIED CARD OF 'gannetlaw29.TimingKinds'. -/
def timingKindsCard : Claim7 := { stood := { row := timingKindsRow, standIns := [], harness := (true, "21af1c897c3b585f2db933986aec2edf37a4f89e58897b58bad58cd586d2364f"), looks := false }, kinds := [], alts := [], laidByText := true, laidKinds := [.data, .pinned], laidTests := true, laidLooks := .later }
def TimingKindsCardSaid : Prop := Claim7.holds Tryd.pinned (.plain (OpenSpec.ofChange timingKindsSpec)) timingKindsCard

/-- THE TIED CARD OF 'gannetlaw29.TimingBounds'. -/
def timingBoundsCard : Claim7 := { stood := { row := timingBoundsRow, standIns := [], harness := (true, "21af1c897c3b585f2db933986aec2edf37a4f89e58897b58bad58cd586d2364f"), looks := false }, kinds := [], alts := [], laidByText := true, laidKinds := [.data, .pinned], laidTests := true, laidLooks := .later }
def TimingBoundsCardSaid : Prop := Claim7.holds Tryd.pinned (.plain (OpenSpec.ofChange timingBoundsSpec)) timingBoundsCard

/-- THE SECOND FORM's CARD OF 'gannetlaw29.TimingLists'. -/
def timingListsUptoCard : Claim7 := { stood := { row := timingListsUptoRow, standIns := [], harness := (true, "21af1c897c3b585f2db933986aec2edf37a4f89e58897b58bad58cd586d2364f"), looks := false }, kinds := [], alts := [], laidByText := true, laidKinds := [.data, .pinned], laidTests := true, laidLooks := .later }
def TimingListsUptoCardSaid : Prop := Claim7.holds Tryd.pinned (.plain (OpenSpec.upto timingListsSpec)) timingListsUptoCard

/-- THE SECOND FORM's CARD OF 'gannetlaw29.TimingKinds'. -/
def timingKindsUptoCard : Claim7 := { stood := { row := timingKindsUptoRow, standIns := [], harness := (true, "21af1c897c3b585f2db933986aec2edf37a4f89e58897b58bad58cd586d2364f"), looks := false }, kinds := [], alts := [], laidByText := true, laidKinds := [.data, .pinned], laidTests := true, laidLooks := .later }
def TimingKindsUptoCardSaid : Prop := Claim7.holds Tryd.pinned (.plain (OpenSpec.upto timingKindsSpec)) timingKindsUptoCard

/-- THE SECOND FORM's CARD OF 'gannetlaw29.TimingBounds'. -/
def timingBoundsUptoCard : Claim7 := { stood := { row := timingBoundsUptoRow, standIns := [], harness := (true, "21af1c897c3b585f2db933986aec2edf37a4f89e58897b58bad58cd586d2364f"), looks := false }, kinds := [], alts := [], laidByText := true, laidKinds := [.data, .pinned], laidTests := true, laidLooks := .later }
def TimingBoundsUptoCardSaid : Prop := Claim7.holds Tryd.pinned (.plain (OpenSpec.upto timingBoundsSpec)) timingBoundsUptoCard
end Rows
end Go.Proofs.YtmbbcfdeielopaaDoorRRRR
