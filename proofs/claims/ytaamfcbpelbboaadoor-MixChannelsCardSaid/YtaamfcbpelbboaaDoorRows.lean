/-
  NARROWER THAN 'FOR EVERY INPUT', by the rows' own cells (each row's printed sentence says how): MixPowers: laid · MixSums: laid · MixTurns: laid · MixChannels: laid · MixMiddle: laid · TopSides: laid.
  DERIVED. THE GIVEN ROWS OF THIS SEAT. 6 by the template 'for every input the law returns true; each argument reads behind the call as it read before'; 0 by the template 'total and deterministic' (their statements: YtaamfcbpelbboaaDoorTotals.lean).
  GIVEN WITH THE SEED: the statements are not yours to turn. If you find one false, say at which input.
  Laid BY PROGRAM, IN A SANDBOX (cutbox-rows.mjs): the forced cells as the released guide's own fill.sh prints them over the translation 41ab4c5fabfa84d3… (all of the seat's roots in one cut). By AI agents, Wed Nov 11 2026. No macro, syntax, notation, axiom, sorry.
-/
import Derived.Test.YtaamfcbpelbboaaDoorChecked
import GoSem.Claim
import GoSem.ClaimJoined
import GoSem.ClaimMapViews
import Derived.JoinedTies
import Derived.KernelRfl
namespace Go.Proofs.YtaamfcbpelbboaaDoor
/- THE CELL 'sum', in the pinned program and in every row, IS THE sha256 OF THE DUMP (.gsa) THAT YtaamfcbpelbboaaDoorProg.lean LOADS. Nothing in Lean hashes anything: it is a label: what it is worth is what the hold of that sum in a sandbox is worth. -/
noncomputable def Tryd.pinned : Pinned := { name := "ytaamfcbpelbboaadoor", sum := "41ab4c5fabfa84d32ad201662ef3cd32e294fa41ed9c8f268c1c32e3a7e4032a", checked := Tryd.checked }
namespace Rows
def none {H : Type} : Left H := { results := [], args := [] }

/- WHAT THE LISTED PACKAGE-LEVEL VARIABLES READ AS WHEN THE CALL BEGINS. Each datum BY PROGRAM (the guide's laid-datum.mjs) off the statement by which the dump's own 'gosem.cut.vars' lays the variable. In a bare row this is a premise. The card (YtaamfcbpelbboaaDoorCards.lean) ties it to the program's text. -/
def laid_gannet_psg_depths {H : Type} : DataW H := .agg [.lit (.int .i64 0), .lit (.int .i64 1), .lit (.int .i64 16), .lit (.int .i64 256)]
def laid_gannet_mix_powers {H : Type} : DataW H := .agg [.lit (.int .i64 4096), .lit (.int .i64 3444), .lit (.int .i64 2896), .lit (.int .i64 2435)]

/-- 'gannetlaw16.MixPowers': WHATEVER THE INPUT: true; the input reads as it did. -/
def mixPowersSpec : ChangeSpec := { name := "mixPowers", fn := fun _ => fun
  | [d1, d2, d3, d4] => { results := [.lit (.bool true)], args := [d1, d2, d3, d4] }
  | _ => none }
def mixPowersRow : OpenClaim := { program := "ytaamfcbpelbboaadoor", sum := "41ab4c5fabfa84d32ad201662ef3cd32e294fa41ed9c8f268c1c32e3a7e4032a", func := "gannet/gannetlaw16.MixPowers", spec := "mixPowers", unfollowed := true, recurses := true, named := ["gannet/mix.powers", "gannet/psg.depths"], apart := false, laid := [("gannet/psg.depths", laid_gannet_psg_depths), ("gannet/mix.powers", laid_gannet_mix_powers)] }
def MixPowersSaid : Prop := mixPowersRow.holds Tryd.pinned (OpenSpec.ofChange mixPowersSpec)

/-- ITS FALSE NEIGHBOUR: 'it returns false'. Refute it at one input. -/
def mixPowersWrong : ChangeSpec := { name := "mixPowers", fn := fun _ => fun
  | [d1, d2, d3, d4] => { results := [.lit (.bool false)], args := [d1, d2, d3, d4] }
  | _ => none }
def MixPowersWrongFalsely : Prop := mixPowersRow.holds Tryd.pinned (OpenSpec.ofChange mixPowersWrong)

/-- 'gannetlaw16.MixSums': WHATEVER THE INPUT: true; the input reads as it did. -/
def mixSumsSpec : ChangeSpec := { name := "mixSums", fn := fun _ => fun
  | [d1, d2, d3] => { results := [.lit (.bool true)], args := [d1, d2, d3] }
  | _ => none }
def mixSumsRow : OpenClaim := { program := "ytaamfcbpelbboaadoor", sum := "41ab4c5fabfa84d32ad201662ef3cd32e294fa41ed9c8f268c1c32e3a7e4032a", func := "gannet/gannetlaw16.MixSums", spec := "mixSums", unfollowed := true, recurses := true, named := ["gannet/mix.powers", "gannet/psg.depths"], apart := false, laid := [("gannet/psg.depths", laid_gannet_psg_depths), ("gannet/mix.powers", laid_gannet_mix_powers)] }
def MixSumsSaid : Prop := mixSumsRow.holds Tryd.pinned (OpenSpec.ofChange mixSumsSpec)

/-- ITS FALSE NEIGHBOUR: 'it returns false'. Refute it at one input. -/
def mixSumsWrong : ChangeSpec := { name := "mixSums", fn := fun _ => fun
  | [d1, d2, d3] => { results := [.lit (.bool false)], args := [d1, d2, d3] }
  | _ => none }
def MixSumsWrongFalsely : Prop := mixSumsRow.holds Tryd.pinned (OpenSpec.ofChange mixSumsWrong)

/-- 'gannetlaw16.MixTurns': WHATEVER THE INPUT: true; the input reads as it did. -/
def mixTurnsSpec : ChangeSpec := { name := "mixTurns", fn := fun _ => fun
  | [d1, d2, d3] => { results := [.lit (.bool true)], args := [d1, d2, d3] }
  | _ => none }
def mixTurnsRow : OpenClaim := { program := "ytaamfcbpelbboaadoor", sum := "41ab4c5fabfa84d32ad201662ef3cd32e294fa41ed9c8f268c1c32e3a7e4032a", func := "gannet/gannetlaw16.MixTurns", spec := "mixTurns", unfollowed := true, recurses := true, named := ["gannet/mix.powers", "gannet/psg.depths"], apart := false, laid := [("gannet/psg.depths", laid_gannet_psg_depths), ("gannet/mix.powers", laid_gannet_mix_powers)] }
def MixTurnsSaid : Prop := mixTurnsRow.holds Tryd.pinned (OpenSpec.ofChange mixTurnsSpec)

/-- ITS FALSE NEIGHBOUR: 'it returns false'. Refute it at one input. -/
def mixTurnsWrong : ChangeSpec := { name := "mixTurns", fn := fun _ => fun
  | [d1, d2, d3] => { results := [.lit (.bool false)], args := [d1, d2, d3] }
  | _ => none }
def MixTurnsWrongFalsely : Prop := mixTurnsRow.holds Tryd.pinned (OpenSpec.ofChange mixTurnsWrong)

/-- 'gannetlaw16.MixChannels': WHATEVER THE INPUT: true; the input reads as it did. -/
def mixChannelsSpec : ChangeSpec := { name := "mixChannels", fn := fun _ => fun
  | [d] => { results := [.lit (.bool true)], args := [d] }
  | _ => none }
def mixChannelsRow : OpenClaim := { program := "ytaamfcbpelbboaadoor", sum := "41ab4c5fabfa84d32ad201662ef3cd32e294fa41ed9c8f268c1c32e3a7e4032a", func := "gannet/gannetlaw16.MixChannels", spec := "mixChannels", unfollowed := true, recurses := true, named := ["gannet/mix.powers", "gannet/psg.depths"], apart := false, laid := [("gannet/psg.depths", laid_gannet_psg_depths), ("gannet/mix.powers", laid_gannet_mix_powers)] }
def MixChannelsSaid : Prop := mixChannelsRow.holds Tryd.pinned (OpenSpec.ofChange mixChannelsSpec)

/-- ITS FALSE NEIGHBOUR: 'it returns false'. Refute it at one input. -/
def mixChannelsWrong : ChangeSpec := { name := "mixChannels", fn := fun _ => fun
  | [d] => { results := [.lit (.bool false)], args := [d] }
  | _ => none }
def MixChannelsWrongFalsely : Prop := mixChannelsRow.holds Tryd.pinned (OpenSpec.ofChange mixChannelsWrong)

/-- 'gannetlaw16.MixMiddle': WHATEVER THE INPUT: true; the input reads as it did. -/
def mixMiddleSpec : ChangeSpec := { name := "mixMiddle", fn := fun _ => fun
  | [d1, d2] => { results := [.lit (.bool true)], args := [d1, d2] }
  | _ => none }
def mixMiddleRow : OpenClaim := { program := "ytaamfcbpelbboaadoor", sum := "41ab4c5fabfa84d32ad201662ef3cd32e294fa41ed9c8f268c1c32e3a7e4032a", func := "gannet/gannetlaw16.MixMiddle", spec := "mixMiddle", unfollowed := true, recurses := true, named := ["gannet/mix.powers", "gannet/psg.depths"], apart := false, laid := [("gannet/psg.depths", laid_gannet_psg_depths), ("gannet/mix.powers", laid_gannet_mix_powers)] }
def MixMiddleSaid : Prop := mixMiddleRow.holds Tryd.pinned (OpenSpec.ofChange mixMiddleSpec)

/-- ITS FALSE NEIGHBOUR: 'it returns false'. Refute it at one input. -/
def mixMiddleWrong : ChangeSpec := { name := "mixMiddle", fn := fun _ => fun
  | [d1, d2] => { results := [.lit (.bool false)], args := [d1, d2] }
  | _ => none }
def MixMiddleWrongFalsely : Prop := mixMiddleRow.holds Tryd.pinned (OpenSpec.ofChange mixMiddleWrong)

/-- 'gannettop.TopSides': WHATEVER THE INPUT: true; the input reads as it did. -/
def topSidesSpec : ChangeSpec := { name := "topSides", fn := fun _ => fun
  | [d1, d2, d3, d4, d5, d6] => { results := [.lit (.bool true)], args := [d1, d2, d3, d4, d5, d6] }
  | _ => none }
def topSidesRow : OpenClaim := { program := "ytaamfcbpelbboaadoor", sum := "41ab4c5fabfa84d32ad201662ef3cd32e294fa41ed9c8f268c1c32e3a7e4032a", func := "gannet/gannettop.TopSides", spec := "topSides", unfollowed := true, recurses := true, named := ["gannet/mix.powers", "gannet/psg.depths"], apart := false, laid := [("gannet/psg.depths", laid_gannet_psg_depths), ("gannet/mix.powers", laid_gannet_mix_powers)] }
def TopSidesSaid : Prop := topSidesRow.holds Tryd.pinned (OpenSpec.ofChange topSidesSpec)

/-- ITS FALSE NEIGHBOUR: 'it returns false'. Refute it at one input. -/
def topSidesWrong : ChangeSpec := { name := "topSides", fn := fun _ => fun
  | [d1, d2, d3, d4, d5, d6] => { results := [.lit (.bool false)], args := [d1, d2, d3, d4, d5, d6] }
  | _ => none }
def TopSidesWrongFalsely : Prop := topSidesRow.holds Tryd.pinned (OpenSpec.ofChange topSidesWrong)

/- THE SECOND FORM. 'bulk': how many values and letters a reading holds, each counted each time it is reached (what is shared counts as often as it is met; a slice's spare places count too). A statement '..UptoSaid' is the law's where the arguments, and the package variables that the reading takes, are together of bulk at most 1048576: NARROWER than '..Said'. Prove '..Said' where nothing that the law and all that it calls make is longer than what came in: it says more and counts as full. Else prove '..UptoSaid'. A law counts once. -/
mutual
def uptoBulk {H : Type} : DataW H → Nat
  | .lit (.string bytes) => bytes.length + 1
  | .lit _ => 1
  | .nil => 1
  | .ptr d => uptoBulk d + 1
  | .slice elems spare => uptoBulkAll elems + uptoBulkAll spare + 1
  | .agg parts => uptoBulkAll parts + 1
  | .iface _ d => uptoBulk d + 1
  | .map entries => uptoBulkEntries entries + 1
  | .held _ => 1
def uptoBulkAll {H : Type} : List (DataW H) → Nat
  | [] => 0
  | d :: r => uptoBulk d + uptoBulkAll r
def uptoBulkEntries {H : Type} : List (Lit × DataW H) → Nat
  | [] => 0
  | x :: r => uptoBulkEntry x + uptoBulkEntries r
def uptoBulkEntry {H : Type} : Lit × DataW H → Nat
  | (.string bytes, d) => bytes.length + uptoBulk d + 1
  | (_, d) => uptoBulk d + 1
 end
def uptoSmall : (H : Type) → List (DataW H) → Bool := fun _ ds => decide (uptoBulkAll ds ≤ 1048576)
def OpenSpec.upto (s : _root_.Go.ChangeSpec) : _root_.Go.OpenSpec := { _root_.Go.OpenSpec.ofChange s with cond := some uptoSmall }

/-- 'gannetlaw16.MixPowers', WHERE WHAT IT READS IS OF BULK AT MOST 1048576: true; the input reads as it did. -/
def mixPowersUptoRow : OpenClaim := { program := "ytaamfcbpelbboaadoor", sum := "41ab4c5fabfa84d32ad201662ef3cd32e294fa41ed9c8f268c1c32e3a7e4032a", func := "gannet/gannetlaw16.MixPowers", spec := "mixPowers", unfollowed := true, recurses := true, named := ["gannet/mix.powers", "gannet/psg.depths"], apart := false, laid := [("gannet/psg.depths", laid_gannet_psg_depths), ("gannet/mix.powers", laid_gannet_mix_powers)], narrowed := true }
def MixPowersUptoSaid : Prop := mixPowersUptoRow.holds Tryd.pinned (OpenSpec.upto mixPowersSpec)

/-- 'gannetlaw16.MixSums', WHERE WHAT IT READS IS OF BULK AT MOST 1048576: true; the input reads as it did. -/
def mixSumsUptoRow : OpenClaim := { program := "ytaamfcbpelbboaadoor", sum := "41ab4c5fabfa84d32ad201662ef3cd32e294fa41ed9c8f268c1c32e3a7e4032a", func := "gannet/gannetlaw16.MixSums", spec := "mixSums", unfollowed := true, recurses := true, named := ["gannet/mix.powers", "gannet/psg.depths"], apart := false, laid := [("gannet/psg.depths", laid_gannet_psg_depths), ("gannet/mix.powers", laid_gannet_mix_powers)], narrowed := true }
def MixSumsUptoSaid : Prop := mixSumsUptoRow.holds Tryd.pinned (OpenSpec.upto mixSumsSpec)

/-- 'gannetlaw16.MixTurns', WHERE WHAT IT READS IS OF BULK AT MOST 1048576: true; the input reads as it did. -/
def mixTurnsUptoRow : OpenClaim := { program := "ytaamfcbpelbboaadoor", sum := "41ab4c5fabfa84d32ad201662ef3cd32e294fa41ed9c8f268c1c32e3a7e4032a", func := "gannet/gannetlaw16.MixTurns", spec := "mixTurns", unfollowed := true, recurses := true, named := ["gannet/mix.powers", "gannet/psg.depths"], apart := false, laid := [("gannet/psg.depths", laid_gannet_psg_depths), ("gannet/mix.powers", laid_gannet_mix_powers)], narrowed := true }
def MixTurnsUptoSaid : Prop := mixTurnsUptoRow.holds Tryd.pinned (OpenSpec.upto mixTurnsSpec)

/-- 'gannetlaw16.MixChannels', WHERE WHAT IT READS IS OF BULK AT MOST 1048576: true; the input reads as it did. -/
def mixChannelsUptoRow : OpenClaim := { program := "ytaamfcbpelbboaadoor", sum := "41ab4c5fabfa84d32ad201662ef3cd32e294fa41ed9c8f268c1c32e3a7e4032a", func := "gannet/gannetlaw16.MixChannels", spec := "mixChannels", unfollowed := true, recurses := true, named := ["gannet/mix.powers", "gannet/psg.depths"], apart := false, laid := [("gannet/psg.depths", laid_gannet_psg_depths), ("gannet/mix.powers", laid_gannet_mix_powers)], narrowed := true }
def MixChannelsUptoSaid : Prop := mixChannelsUptoRow.holds Tryd.pinned (OpenSpec.upto mixChannelsSpec)

/-- 'gannetlaw16.MixMiddle', WHERE WHAT IT READS IS OF BULK AT MOST 1048576: true; the input reads as it did. -/
def mixMiddleUptoRow : OpenClaim := { program := "ytaamfcbpelbboaadoor", sum := "41ab4c5fabfa84d32ad201662ef3cd32e294fa41ed9c8f268c1c32e3a7e4032a", func := "gannet/gannetlaw16.MixMiddle", spec := "mixMiddle", unfollowed := true, recurses := true, named := ["gannet/mix.powers", "gannet/psg.depths"], apart := false, laid := [("gannet/psg.depths", laid_gannet_psg_depths), ("gannet/mix.powers", laid_gannet_mix_powers)], narrowed := true }
def MixMiddleUptoSaid : Prop := mixMiddleUptoRow.holds Tryd.pinned (OpenSpec.upto mixMiddleSpec)

/-- 'gannettop.TopSides', WHERE WHAT IT READS IS OF BULK AT MOST 1048576: true; the input reads as it did. -/
def topSidesUptoRow : OpenClaim := { program := "ytaamfcbpelbboaadoor", sum := "41ab4c5fabfa84d32ad201662ef3cd32e294fa41ed9c8f268c1c32e3a7e4032a", func := "gannet/gannettop.TopSides", spec := "topSides", unfollowed := true, recurses := true, named := ["gannet/mix.powers", "gannet/psg.depths"], apart := false, laid := [("gannet/psg.depths", laid_gannet_psg_depths), ("gannet/mix.powers", laid_gannet_mix_powers)], narrowed := true }
def TopSidesUptoSaid : Prop := topSidesUptoRow.holds Tryd.pinned (OpenSpec.upto topSidesSpec)

end Rows
end Go.Proofs.YtaamfcbpelbboaaDoor
