/-
  NARROWER THAN 'FOR EVERY INPUT', by the rows' own cells (each row's printed sentence says how): StateBytes: laid · StateTexts: laid · StateNames: laid · StateSets: laid.
  DERIVED. THE GIVEN ROWS OF THIS SEAT. 4 by the template 'for every input the law returns true; each argument reads behind the call as it read before'; 0 by the template 'total and deterministic' (their statements: YtnnfnjbfjgjgnaaDoorTotals.lean).
  GIVEN WITH THE SEED: the statements are not yours to turn. If you find one false, say at which input.
  Laid BY PROGRAM, IN A SANDBOX (cutbox-rows.mjs): the forced cells as the released guide's own fill.sh prints them over the translation 5ab26a410924bc68… (all of the seat's roots in one cut). By AI agents, Wed Nov 11 2026. No macro, syntax, notation, axiom, sorry.
-/
import Derived.Test.YtnnfnjbfjgjgnaaDoorChecked
import GoSem.Claim
import GoSem.ClaimJoined
import GoSem.ClaimMapViews
import Derived.JoinedTies
import Derived.KernelRfl
namespace Go.Proofs.YtnnfnjbfjgjgnaaDoor
/- THE CELL 'sum', in the pinned program and in every row, IS THE sha256 OF THE DUMP (.gsa) THAT YtnnfnjbfjgjgnaaDoorProg.lean LOADS. Nothing in Lean hashes anything: it is a label: what it is worth is what the hold of that sum in a sandbox is worth. -/
noncomputable def Tryd.pinned : Pinned := { name := "ytnnfnjbfjgjgnaadoor", sum := "5ab26a410924bc685eb063199b578e57923c3939e2727b581f381c55da486477", checked := Tryd.checked }
namespace Rows
def none {H : Type} : Left H := { results := [], args := [] }

/- WHAT THE LISTED PACKAGE-LEVEL VARIABLES READ AS WHEN THE CALL BEGINS. Each datum BY PROGRAM (the guide's laid-datum.mjs) off the statement by which the dump's own 'gosem.cut.vars' lays the variable. In a bare row this is a premise. The card (YtnnfnjbfjgjgnaaDoorCards.lean) ties it to the program's text. -/
def laid_gannet_flags_letters {H : Type} : DataW H := .agg [.lit (.int .u8 78), .lit (.int .u8 86), .lit (.int .u8 84), .lit (.int .u8 66), .lit (.int .u8 68), .lit (.int .u8 73), .lit (.int .u8 90), .lit (.int .u8 67)]
def laid_gannet_state_names {H : Type} : DataW H := .agg [.lit (.string [65]), .lit (.string [88]), .lit (.string [89]), .lit (.string [83]), .lit (.string [80]), .lit (.string [80, 67]), .lit (.string [77, 48]), .lit (.string [77, 49]), .lit (.string [77, 50]), .lit (.string [77, 51]), .lit (.string [77, 52]), .lit (.string [77, 53]), .lit (.string [77, 54]), .lit (.string [77, 55]), .lit (.string [76]), .lit (.string [70])]
def laid_gannet_state_ahead {H : Type} : DataW H := .agg [.lit (.string [65, 61]), .lit (.string [32, 88, 61]), .lit (.string [32, 89, 61]), .lit (.string [32, 83, 61]), .lit (.string [32, 80, 61]), .lit (.string [32, 80, 67, 61]), .lit (.string [32, 77, 61]), .lit (.string [46]), .lit (.string [46]), .lit (.string [46]), .lit (.string [46]), .lit (.string [46]), .lit (.string [46]), .lit (.string [46]), .lit (.string [32, 76, 61]), .lit (.string [32])]

/-- 'gannetlaw25.StateBytes': WHATEVER THE INPUT: true; the input reads as it did. -/
def stateBytesSpec : ChangeSpec := { name := "stateBytes", fn := fun _ => fun
  | [d1, d2] => { results := [.lit (.bool true)], args := [d1, d2] }
  | _ => none }
def stateBytesRow : OpenClaim := { program := "ytnnfnjbfjgjgnaadoor", sum := "5ab26a410924bc685eb063199b578e57923c3939e2727b581f381c55da486477", func := "gannet/gannetlaw25.StateBytes", spec := "stateBytes", inPlace := ["internal/abi.NoEscape"], named := ["gannet/state.ahead", "gannet/flags.letters", "gannet/state.names"], apart := false, laid := [("gannet/flags.letters", laid_gannet_flags_letters), ("gannet/state.names", laid_gannet_state_names), ("gannet/state.ahead", laid_gannet_state_ahead)] }
def StateBytesSaid : Prop := stateBytesRow.holds Tryd.pinned (OpenSpec.ofChange stateBytesSpec)

/-- ITS FALSE NEIGHBOUR: 'it returns false'. Refute it at one input. -/
def stateBytesWrong : ChangeSpec := { name := "stateBytes", fn := fun _ => fun
  | [d1, d2] => { results := [.lit (.bool false)], args := [d1, d2] }
  | _ => none }
def StateBytesWrongFalsely : Prop := stateBytesRow.holds Tryd.pinned (OpenSpec.ofChange stateBytesWrong)

/-- 'gannetlaw25.StateTexts': WHATEVER THE INPUT: true; the input reads as it did. -/
def stateTextsSpec : ChangeSpec := { name := "stateTexts", fn := fun _ => fun
  | [d1, d2] => { results := [.lit (.bool true)], args := [d1, d2] }
  | _ => none }
def stateTextsRow : OpenClaim := { program := "ytnnfnjbfjgjgnaadoor", sum := "5ab26a410924bc685eb063199b578e57923c3939e2727b581f381c55da486477", func := "gannet/gannetlaw25.StateTexts", spec := "stateTexts", inPlace := ["internal/abi.NoEscape"], named := ["gannet/state.ahead", "gannet/flags.letters", "gannet/state.names"], apart := false, laid := [("gannet/flags.letters", laid_gannet_flags_letters), ("gannet/state.names", laid_gannet_state_names), ("gannet/state.ahead", laid_gannet_state_ahead)] }
def StateTextsSaid : Prop := stateTextsRow.holds Tryd.pinned (OpenSpec.ofChange stateTextsSpec)

/-- ITS FALSE NEIGHBOUR: 'it returns false'. Refute it at one input. -/
def stateTextsWrong : ChangeSpec := { name := "stateTexts", fn := fun _ => fun
  | [d1, d2] => { results := [.lit (.bool false)], args := [d1, d2] }
  | _ => none }
def StateTextsWrongFalsely : Prop := stateTextsRow.holds Tryd.pinned (OpenSpec.ofChange stateTextsWrong)

/-- 'gannetlaw25.StateNames': WHATEVER THE INPUT: true; the input reads as it did. -/
def stateNamesSpec : ChangeSpec := { name := "stateNames", fn := fun _ => fun
  | [d1, d2, d3] => { results := [.lit (.bool true)], args := [d1, d2, d3] }
  | _ => none }
def stateNamesRow : OpenClaim := { program := "ytnnfnjbfjgjgnaadoor", sum := "5ab26a410924bc685eb063199b578e57923c3939e2727b581f381c55da486477", func := "gannet/gannetlaw25.StateNames", spec := "stateNames", inPlace := ["internal/abi.NoEscape"], named := ["gannet/state.ahead", "gannet/flags.letters", "gannet/state.names"], apart := false, laid := [("gannet/flags.letters", laid_gannet_flags_letters), ("gannet/state.names", laid_gannet_state_names), ("gannet/state.ahead", laid_gannet_state_ahead)] }
def StateNamesSaid : Prop := stateNamesRow.holds Tryd.pinned (OpenSpec.ofChange stateNamesSpec)

/-- ITS FALSE NEIGHBOUR: 'it returns false'. Refute it at one input. -/
def stateNamesWrong : ChangeSpec := { name := "stateNames", fn := fun _ => fun
  | [d1, d2, d3] => { results := [.lit (.bool false)], args := [d1, d2, d3] }
  | _ => none }
def StateNamesWrongFalsely : Prop := stateNamesRow.holds Tryd.pinned (OpenSpec.ofChange stateNamesWrong)

/-- 'gannetlaw25.StateSets': WHATEVER THE INPUT: true; the input reads as it did. -/
def stateSetsSpec : ChangeSpec := { name := "stateSets", fn := fun _ => fun
  | [d1, d2, d3] => { results := [.lit (.bool true)], args := [d1, d2, d3] }
  | _ => none }
def stateSetsRow : OpenClaim := { program := "ytnnfnjbfjgjgnaadoor", sum := "5ab26a410924bc685eb063199b578e57923c3939e2727b581f381c55da486477", func := "gannet/gannetlaw25.StateSets", spec := "stateSets", inPlace := ["internal/abi.NoEscape"], named := ["gannet/state.ahead", "gannet/flags.letters", "gannet/state.names"], apart := false, laid := [("gannet/flags.letters", laid_gannet_flags_letters), ("gannet/state.names", laid_gannet_state_names), ("gannet/state.ahead", laid_gannet_state_ahead)] }
def StateSetsSaid : Prop := stateSetsRow.holds Tryd.pinned (OpenSpec.ofChange stateSetsSpec)

/-- ITS FALSE NEIGHBOUR: 'it returns false'. Refute it at one input. -/
def stateSetsWrong : ChangeSpec := { name := "stateSets", fn := fun _ => fun
  | [d1, d2, d3] => { results := [.lit (.bool false)], args := [d1, d2, d3] }
  | _ => none }
def StateSetsWrongFalsely : Prop := stateSetsRow.holds Tryd.pinned (OpenSpec.ofChange stateSetsWrong)

/- THE SECOND FORM. 'bulk': how many values and letters a reading holds, each counted each time it is reached (what is shared counts as often as it is met; a slice's spare places count too). A statement '..UptoSaid' is the law's where the arguments, and the package variables that the reading takes, are together of bulk at most 1048576: NARROWER than '..Said'. Prove '..Said' where nothing that the law and all that it calls make is longer than what came in: it says more and counts as full. Else prove '..UptoSaid'. A law counts once. -/
mutual
def uptoBulk {H : Type} : DataW H → Nat
  | .lit (.string bytes) => bytes.length + 1
  | .lit _ => 1
  | .nil => 1
  | .ptr d => uptoBulk d + 1
  | .slice elems spare => uptoBulkAll elems + uptoBulkAll spare + 1
  | .agg parts => uptoBulkAll parts + 1
  | .iface _ d => uptoBulk d + 1
  | .map entries => uptoBulkEntries entries + 1
  | .held _ => 1
def uptoBulkAll {H : Type} : List (DataW H) → Nat
  | [] => 0
  | d :: r => uptoBulk d + uptoBulkAll r
def uptoBulkEntries {H : Type} : List (Lit × DataW H) → Nat
  | [] => 0
  | x :: r => uptoBulkEntry x + uptoBulkEntries r
def uptoBulkEntry {H : Type} : Lit × DataW H → Nat
  | (.string bytes, d) => bytes.length + uptoBulk d + 1
  | (_, d) => uptoBulk d + 1
 end
def uptoSmall : (H : Type) → List (DataW H) → Bool := fun _ ds => decide (uptoBulkAll ds ≤ 1048576)
def OpenSpec.upto (s : _root_.Go.ChangeSpec) : _root_.Go.OpenSpec := { _root_.Go.OpenSpec.ofChange s with cond := some uptoSmall }

/-- 'gannetlaw25.StateBytes', WHERE WHAT IT READS IS OF BULK AT MOST 1048576: true; the input reads as it did. -/
def stateBytesUptoRow : OpenClaim := { program := "ytnnfnjbfjgjgnaadoor", sum := "5ab26a410924bc685eb063199b578e57923c3939e2727b581f381c55da486477", func := "gannet/gannetlaw25.StateBytes", spec := "stateBytes", inPlace := ["internal/abi.NoEscape"], named := ["gannet/state.ahead", "gannet/flags.letters", "gannet/state.names"], apart := false, laid := [("gannet/flags.letters", laid_gannet_flags_letters), ("gannet/state.names", laid_gannet_state_names), ("gannet/state.ahead", laid_gannet_state_ahead)], narrowed := true }
def StateBytesUptoSaid : Prop := stateBytesUptoRow.holds Tryd.pinned (OpenSpec.upto stateBytesSpec)

/-- 'gannetlaw25.StateTexts', WHERE WHAT IT READS IS OF BULK AT MOST 1048576: true; the input reads as it did. -/
def stateTextsUptoRow : OpenClaim := { program := "ytnnfnjbfjgjgnaadoor", sum := "5ab26a410924bc685eb063199b578e57923c3939e2727b581f381c55da486477", func := "gannet/gannetlaw25.StateTexts", spec := "stateTexts", inPlace := ["internal/abi.NoEscape"], named := ["gannet/state.ahead", "gannet/flags.letters", "gannet/state.names"], apart := false, laid := [("gannet/flags.letters", laid_gannet_flags_letters), ("gannet/state.names", laid_gannet_state_names), ("gannet/state.ahead", laid_gannet_state_ahead)], narrowed := true }
def StateTextsUptoSaid : Prop := stateTextsUptoRow.holds Tryd.pinned (OpenSpec.upto stateTextsSpec)

/-- 'gannetlaw25.StateNames', WHERE WHAT IT READS IS OF BULK AT MOST 1048576: true; the input reads as it did. -/
def stateNamesUptoRow : OpenClaim := { program := "ytnnfnjbfjgjgnaadoor", sum := "5ab26a410924bc685eb063199b578e57923c3939e2727b581f381c55da486477", func := "gannet/gannetlaw25.StateNames", spec := "stateNames", inPlace := ["internal/abi.NoEscape"], named := ["gannet/state.ahead", "gannet/flags.letters", "gannet/state.names"], apart := false, laid := [("gannet/flags.letters", laid_gannet_flags_letters), ("gannet/state.names", laid_gannet_state_names), ("gannet/state.ahead", laid_gannet_state_ahead)], narrowed := true }
def StateNamesUptoSaid : Prop := stateNamesUptoRow.holds Tryd.pinned (OpenSpec.upto stateNamesSpec)

/-- 'gannetlaw25.StateSets', WHERE WHAT IT READS IS OF BULK AT MOST 1048576: true; the input reads as it did. -/
def stateSetsUptoRow : OpenClaim := { program := "ytnnfnjbfjgjgnaadoor", sum := "5ab26a410924bc685eb063199b578e57923c3939e2727b581f381c55da486477", func := "gannet/gannetlaw25.StateSets", spec := "stateSets", inPlace := ["internal/abi.NoEscape"], named := ["gannet/state.ahead", "gannet/flags.letters", "gannet/state.names"], apart := false, laid := [("gannet/flags.letters", laid_gannet_flags_letters), ("gannet/state.names", laid_gannet_state_names), ("gannet/state.ahead", laid_gannet_state_ahead)], narrowed := true }
def StateSetsUptoSaid : Prop := stateSetsUptoRow.holds Tryd.pinned (OpenSpec.upto stateSetsSpec)

end Rows
end Go.Proofs.YtnnfnjbfjgjgnaaDoor
