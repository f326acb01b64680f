/-
  NARROWER THAN 'FOR EVERY INPUT', by the rows' own cells (each row's printed sentence says how): MmuMoves: laid · MmuMaps: laid · FlagsParts: laid · FlagsTexts: laid · FlagsMoves: laid.
  DERIVED. THE GIVEN ROWS OF THIS SEAT. 5 by the template 'for every input the law returns true; each argument reads behind the call as it read before'; 0 by the template 'total and deterministic' (their statements: YtccimkmlbcgekaaDoorTotals.lean).
  GIVEN WITH THE SEED: the statements are not yours to turn. If you find one false, say at which input.
  Laid BY PROGRAM, IN A SANDBOX (cutbox-rows.mjs): the forced cells as the released guide's own fill.sh prints them over the translation 301a6dd266dc0bf0… (all of the seat's roots in one cut). By AI agents, Wed Nov 11 2026. No macro, syntax, notation, axiom, sorry.
-/
import Derived.Test.YtccimkmlbcgekaaDoorChecked
import GoSem.Claim
import GoSem.ClaimJoined
import GoSem.ClaimMapViews
import Derived.JoinedTies
import Derived.KernelRfl
namespace Go.Proofs.YtccimkmlbcgekaaDoor
/- THE CELL 'sum', in the pinned program and in every row, IS THE sha256 OF THE DUMP (.gsa) THAT YtccimkmlbcgekaaDoorProg.lean LOADS. Nothing in Lean hashes anything: it is a label: what it is worth is what the hold of that sum in a sandbox is worth. -/
noncomputable def Tryd.pinned : Pinned := { name := "ytccimkmlbcgekaadoor", sum := "301a6dd266dc0bf0be40f15a0483816318bb59a146ea7fb439d1b26e06b412ef", checked := Tryd.checked }
namespace Rows
def none {H : Type} : Left H := { results := [], args := [] }

/- WHAT THE LISTED PACKAGE-LEVEL VARIABLES READ AS WHEN THE CALL BEGINS. Each datum BY PROGRAM (the guide's laid-datum.mjs) off the statement by which the dump's own 'gosem.cut.vars' lays the variable. In a bare row this is a premise. The card (YtccimkmlbcgekaaDoorCards.lean) ties it to the program's text. -/
def laid_gannet_mmu_ports {H : Type} : DataW H := .agg [.lit (.int .u16 0), .lit (.int .u16 2), .lit (.int .u16 3)]
def laid_gannet_flags_letters {H : Type} : DataW H := .agg [.lit (.int .u8 78), .lit (.int .u8 86), .lit (.int .u8 84), .lit (.int .u8 66), .lit (.int .u8 68), .lit (.int .u8 73), .lit (.int .u8 90), .lit (.int .u8 67)]

/-- 'gannetlaw18.MmuMoves': WHATEVER THE INPUT: true; the input reads as it did. -/
def mmuMovesSpec : ChangeSpec := { name := "mmuMoves", fn := fun _ => fun
  | [d1, d2, d3, d4] => { results := [.lit (.bool true)], args := [d1, d2, d3, d4] }
  | _ => none }
def mmuMovesRow : OpenClaim := { program := "ytccimkmlbcgekaadoor", sum := "301a6dd266dc0bf0be40f15a0483816318bb59a146ea7fb439d1b26e06b412ef", func := "gannet/gannetlaw18.MmuMoves", spec := "mmuMoves", unfollowed := true, recurses := true, named := ["gannet/mmu.ports"], apart := false, laid := [("gannet/mmu.ports", laid_gannet_mmu_ports)] }
def MmuMovesSaid : Prop := mmuMovesRow.holds Tryd.pinned (OpenSpec.ofChange mmuMovesSpec)

/-- ITS FALSE NEIGHBOUR: 'it returns false'. Refute it at one input. -/
def mmuMovesWrong : ChangeSpec := { name := "mmuMoves", fn := fun _ => fun
  | [d1, d2, d3, d4] => { results := [.lit (.bool false)], args := [d1, d2, d3, d4] }
  | _ => none }
def MmuMovesWrongFalsely : Prop := mmuMovesRow.holds Tryd.pinned (OpenSpec.ofChange mmuMovesWrong)

/-- 'gannetlaw18.MmuMaps': WHATEVER THE INPUT: true; the input reads as it did. -/
def mmuMapsSpec : ChangeSpec := { name := "mmuMaps", fn := fun _ => fun
  | [d1, d2, d3] => { results := [.lit (.bool true)], args := [d1, d2, d3] }
  | _ => none }
def mmuMapsRow : OpenClaim := { program := "ytccimkmlbcgekaadoor", sum := "301a6dd266dc0bf0be40f15a0483816318bb59a146ea7fb439d1b26e06b412ef", func := "gannet/gannetlaw18.MmuMaps", spec := "mmuMaps", unfollowed := true, recurses := true, named := ["gannet/mmu.ports"], apart := false, laid := [("gannet/mmu.ports", laid_gannet_mmu_ports)] }
def MmuMapsSaid : Prop := mmuMapsRow.holds Tryd.pinned (OpenSpec.ofChange mmuMapsSpec)

/-- ITS FALSE NEIGHBOUR: 'it returns false'. Refute it at one input. -/
def mmuMapsWrong : ChangeSpec := { name := "mmuMaps", fn := fun _ => fun
  | [d1, d2, d3] => { results := [.lit (.bool false)], args := [d1, d2, d3] }
  | _ => none }
def MmuMapsWrongFalsely : Prop := mmuMapsRow.holds Tryd.pinned (OpenSpec.ofChange mmuMapsWrong)

/-- 'gannetlaw20.FlagsParts': WHATEVER THE INPUT: true; the input reads as it did. -/
def flagsPartsSpec : ChangeSpec := { name := "flagsParts", fn := fun _ => fun
  | [d1, d2, d3] => { results := [.lit (.bool true)], args := [d1, d2, d3] }
  | _ => none }
def flagsPartsRow : OpenClaim := { program := "ytccimkmlbcgekaadoor", sum := "301a6dd266dc0bf0be40f15a0483816318bb59a146ea7fb439d1b26e06b412ef", func := "gannet/gannetlaw20.FlagsParts", spec := "flagsParts", named := ["gannet/flags.letters"], apart := false, laid := [("gannet/flags.letters", laid_gannet_flags_letters)] }
def FlagsPartsSaid : Prop := flagsPartsRow.holds Tryd.pinned (OpenSpec.ofChange flagsPartsSpec)

/-- ITS FALSE NEIGHBOUR: 'it returns false'. Refute it at one input. -/
def flagsPartsWrong : ChangeSpec := { name := "flagsParts", fn := fun _ => fun
  | [d1, d2, d3] => { results := [.lit (.bool false)], args := [d1, d2, d3] }
  | _ => none }
def FlagsPartsWrongFalsely : Prop := flagsPartsRow.holds Tryd.pinned (OpenSpec.ofChange flagsPartsWrong)

/-- 'gannetlaw20.FlagsTexts': WHATEVER THE INPUT: true; the input reads as it did. -/
def flagsTextsSpec : ChangeSpec := { name := "flagsTexts", fn := fun _ => fun
  | [d1, d2] => { results := [.lit (.bool true)], args := [d1, d2] }
  | _ => none }
def flagsTextsRow : OpenClaim := { program := "ytccimkmlbcgekaadoor", sum := "301a6dd266dc0bf0be40f15a0483816318bb59a146ea7fb439d1b26e06b412ef", func := "gannet/gannetlaw20.FlagsTexts", spec := "flagsTexts", named := ["gannet/flags.letters"], apart := false, laid := [("gannet/flags.letters", laid_gannet_flags_letters)] }
def FlagsTextsSaid : Prop := flagsTextsRow.holds Tryd.pinned (OpenSpec.ofChange flagsTextsSpec)

/-- ITS FALSE NEIGHBOUR: 'it returns false'. Refute it at one input. -/
def flagsTextsWrong : ChangeSpec := { name := "flagsTexts", fn := fun _ => fun
  | [d1, d2] => { results := [.lit (.bool false)], args := [d1, d2] }
  | _ => none }
def FlagsTextsWrongFalsely : Prop := flagsTextsRow.holds Tryd.pinned (OpenSpec.ofChange flagsTextsWrong)

/-- 'gannetlaw20.FlagsMoves': WHATEVER THE INPUT: true; the input reads as it did. -/
def flagsMovesSpec : ChangeSpec := { name := "flagsMoves", fn := fun _ => fun
  | [d1, d2, d3] => { results := [.lit (.bool true)], args := [d1, d2, d3] }
  | _ => none }
def flagsMovesRow : OpenClaim := { program := "ytccimkmlbcgekaadoor", sum := "301a6dd266dc0bf0be40f15a0483816318bb59a146ea7fb439d1b26e06b412ef", func := "gannet/gannetlaw20.FlagsMoves", spec := "flagsMoves", named := ["gannet/flags.letters"], apart := false, laid := [("gannet/flags.letters", laid_gannet_flags_letters)] }
def FlagsMovesSaid : Prop := flagsMovesRow.holds Tryd.pinned (OpenSpec.ofChange flagsMovesSpec)

/-- ITS FALSE NEIGHBOUR: 'it returns false'. Refute it at one input. -/
def flagsMovesWrong : ChangeSpec := { name := "flagsMoves", fn := fun _ => fun
  | [d1, d2, d3] => { results := [.lit (.bool false)], args := [d1, d2, d3] }
  | _ => none }
def FlagsMovesWrongFalsely : Prop := flagsMovesRow.holds Tryd.pinned (OpenSpec.ofChange flagsMovesWrong)

/- THE SECOND FORM. 'bulk': how many values and letters a reading holds, each counted each time it is reached (what is shared counts as often as it is met; a slice's spare places count too). A statement '..UptoSaid' is the law's where the arguments, and the package variables that the reading takes, are together of bulk at most 1048576: NARROWER than '..Said'. Prove '..Said' where nothing that the law and all that it calls make is longer than what came in: it says more and counts as full. Else prove '..UptoSaid'. A law counts once. -/
mutual
def uptoBulk {H : Type} : DataW H → Nat
  | .lit (.string bytes) => bytes.length + 1
  | .lit _ => 1
  | .nil => 1
  | .ptr d => uptoBulk d + 1
  | .slice elems spare => uptoBulkAll elems + uptoBulkAll spare + 1
  | .agg parts => uptoBulkAll parts + 1
  | .iface _ d => uptoBulk d + 1
  | .map entries => uptoBulkEntries entries + 1
  | .held _ => 1
def uptoBulkAll {H : Type} : List (DataW H) → Nat
  | [] => 0
  | d :: r => uptoBulk d + uptoBulkAll r
def uptoBulkEntries {H : Type} : List (Lit × DataW H) → Nat
  | [] => 0
  | x :: r => uptoBulkEntry x + uptoBulkEntries r
def uptoBulkEntry {H : Type} : Lit × DataW H → Nat
  | (.string bytes, d) => bytes.length + uptoBulk d + 1
  | (_, d) => uptoBulk d + 1
 end
def uptoSmall : (H : Type) → List (DataW H) → Bool := fun _ ds => decide (uptoBulkAll ds ≤ 1048576)
def OpenSpec.upto (s : _root_.Go.ChangeSpec) : _root_.Go.OpenSpec := { _root_.Go.OpenSpec.ofChange s with cond := some uptoSmall }

/-- 'gannetlaw18.MmuMoves', WHERE WHAT IT READS IS OF BULK AT MOST 1048576: true; the input reads as it did. -/
def mmuMovesUptoRow : OpenClaim := { program := "ytccimkmlbcgekaadoor", sum := "301a6dd266dc0bf0be40f15a0483816318bb59a146ea7fb439d1b26e06b412ef", func := "gannet/gannetlaw18.MmuMoves", spec := "mmuMoves", unfollowed := true, recurses := true, named := ["gannet/mmu.ports"], apart := false, laid := [("gannet/mmu.ports", laid_gannet_mmu_ports)], narrowed := true }
def MmuMovesUptoSaid : Prop := mmuMovesUptoRow.holds Tryd.pinned (OpenSpec.upto mmuMovesSpec)

/-- 'gannetlaw18.MmuMaps', WHERE WHAT IT READS IS OF BULK AT MOST 1048576: true; the input reads as it did. -/
def mmuMapsUptoRow : OpenClaim := { program := "ytccimkmlbcgekaadoor", sum := "301a6dd266dc0bf0be40f15a0483816318bb59a146ea7fb439d1b26e06b412ef", func := "gannet/gannetlaw18.MmuMaps", spec := "mmuMaps", unfollowed := true, recurses := true, named := ["gannet/mmu.ports"], apart := false, laid := [("gannet/mmu.ports", laid_gannet_mmu_ports)], narrowed := true }
def MmuMapsUptoSaid : Prop := mmuMapsUptoRow.holds Tryd.pinned (OpenSpec.upto mmuMapsSpec)

/-- 'gannetlaw20.FlagsParts', WHERE WHAT IT READS IS OF BULK AT MOST 1048576: true; the input reads as it did. -/
def flagsPartsUptoRow : OpenClaim := { program := "ytccimkmlbcgekaadoor", sum := "301a6dd266dc0bf0be40f15a0483816318bb59a146ea7fb439d1b26e06b412ef", func := "gannet/gannetlaw20.FlagsParts", spec := "flagsParts", named := ["gannet/flags.letters"], apart := false, laid := [("gannet/flags.letters", laid_gannet_flags_letters)], narrowed := true }
def FlagsPartsUptoSaid : Prop := flagsPartsUptoRow.holds Tryd.pinned (OpenSpec.upto flagsPartsSpec)

/-- 'gannetlaw20.FlagsTexts', WHERE WHAT IT READS IS OF BULK AT MOST 1048576: true; the input reads as it did. -/
def flagsTextsUptoRow : OpenClaim := { program := "ytccimkmlbcgekaadoor", sum := "301a6dd266dc0bf0be40f15a0483816318bb59a146ea7fb439d1b26e06b412ef", func := "gannet/gannetlaw20.FlagsTexts", spec := "flagsTexts", named := ["gannet/flags.letters"], apart := false, laid := [("gannet/flags.letters", laid_gannet_flags_letters)], narrowed := true }
def FlagsTextsUptoSaid : Prop := flagsTextsUptoRow.holds Tryd.pinned (OpenSpec.upto flagsTextsSpec)

/-- 'gannetlaw20.FlagsMoves', WHERE WHAT IT READS IS OF BULK AT MOST 1048576: true; the input reads as it did. -/
def flagsMovesUptoRow : OpenClaim := { program := "ytccimkmlbcgekaadoor", sum := "301a6dd266dc0bf0be40f15a0483816318bb59a146ea7fb439d1b26e06b412ef", func := "gannet/gannetlaw20.FlagsMoves", spec := "flagsMoves", named := ["gannet/flags.letters"], apart := false, laid := [("gannet/flags.letters", laid_gannet_flags_letters)], narrowed := true }
def FlagsMovesUptoSaid : Prop := flagsMovesUptoRow.holds Tryd.pinned (OpenSpec.upto flagsMovesSpec)

end Rows
end Go.Proofs.YtccimkmlbcgekaaDoor
