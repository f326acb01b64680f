/-
  No cell of these rows narrows 'for every input' (looked for: loops, veiled, ifaces, maps, wideKeys, modest, calm, conditions, laid).
  DERIVED. THE GIVEN ROWS OF THIS SEAT. 6 by the template 'for every input the law returns true; each argument reads behind the call as it read before'; 0 by the template 'total and deterministic' (their statements: YtnelcbbjnpaodaaTotals.lean).
  GIVEN WITH THE SEED: the statements are not yours to turn. If you find one false, say at which input.
  Laid BY PROGRAM, IN A SANDBOX (cutbox-rows.mjs): the forced cells as the released guide's own fill.sh prints them over the translation d9590ee39b27973c… (all of the seat's roots in one cut). By AI agents, Wed Nov 11 2026. No macro, syntax, notation, axiom, sorry.
-/
import Derived.Test.YtnelcbbjnpaodaaChecked
import GoSem.Claim
import GoSem.ClaimJoined
import GoSem.ClaimMapViews
import Derived.JoinedTies
import Derived.KernelRfl
namespace Go.Proofs.Ytnelcbbjnpaodaa
/- THE CELL 'sum', in the pinned program and in every row, IS THE sha256 OF THE DUMP (.gsa) THAT YtnelcbbjnpaodaaProg.lean LOADS. Nothing in Lean hashes anything: it is a label: what it is worth is what the hold of that sum in a sandbox is worth. -/
noncomputable def Try.pinned : Pinned := { name := "ytnelcbbjnpaodaa", sum := "d9590ee39b27973c5cd54d42544b1fc0db6373bd1feac7c9df28d495f851f917", checked := Try.checked }
namespace Rows
def none {H : Type} : Left H := { results := [], args := [] }

/-- 'gannetlaw17.TurnsTell': WHATEVER THE INPUT: true; the input reads as it did. -/
def turnsTellSpec : ChangeSpec := { name := "turnsTell", fn := fun _ => fun
  | [d] => { results := [.lit (.bool true)], args := [d] }
  | _ => none }
def turnsTellRow : OpenClaim := { program := "ytnelcbbjnpaodaa", sum := "d9590ee39b27973c5cd54d42544b1fc0db6373bd1feac7c9df28d495f851f917", func := "gannet/gannetlaw17.TurnsTell", spec := "turnsTell", apart := false }
def TurnsTellSaid : Prop := turnsTellRow.holds Try.pinned (OpenSpec.ofChange turnsTellSpec)

/-- ITS FALSE NEIGHBOUR: 'it returns false'. Refute it at one input. -/
def turnsTellWrong : ChangeSpec := { name := "turnsTell", fn := fun _ => fun
  | [d] => { results := [.lit (.bool false)], args := [d] }
  | _ => none }
def TurnsTellWrongFalsely : Prop := turnsTellRow.holds Try.pinned (OpenSpec.ofChange turnsTellWrong)

/-- 'gannetlaw17.TurnsBack': WHATEVER THE INPUT: true; the input reads as it did. -/
def turnsBackSpec : ChangeSpec := { name := "turnsBack", fn := fun _ => fun
  | [d1, d2] => { results := [.lit (.bool true)], args := [d1, d2] }
  | _ => none }
def turnsBackRow : OpenClaim := { program := "ytnelcbbjnpaodaa", sum := "d9590ee39b27973c5cd54d42544b1fc0db6373bd1feac7c9df28d495f851f917", func := "gannet/gannetlaw17.TurnsBack", spec := "turnsBack", apart := false }
def TurnsBackSaid : Prop := turnsBackRow.holds Try.pinned (OpenSpec.ofChange turnsBackSpec)

/-- ITS FALSE NEIGHBOUR: 'it returns false'. Refute it at one input. -/
def turnsBackWrong : ChangeSpec := { name := "turnsBack", fn := fun _ => fun
  | [d1, d2] => { results := [.lit (.bool false)], args := [d1, d2] }
  | _ => none }
def TurnsBackWrongFalsely : Prop := turnsBackRow.holds Try.pinned (OpenSpec.ofChange turnsBackWrong)

/-- 'gannetlaw17.TurnsRound': WHATEVER THE INPUT: true; the input reads as it did. -/
def turnsRoundSpec : ChangeSpec := { name := "turnsRound", fn := fun _ => fun
  | [d1, d2] => { results := [.lit (.bool true)], args := [d1, d2] }
  | _ => none }
def turnsRoundRow : OpenClaim := { program := "ytnelcbbjnpaodaa", sum := "d9590ee39b27973c5cd54d42544b1fc0db6373bd1feac7c9df28d495f851f917", func := "gannet/gannetlaw17.TurnsRound", spec := "turnsRound", apart := false }
def TurnsRoundSaid : Prop := turnsRoundRow.holds Try.pinned (OpenSpec.ofChange turnsRoundSpec)

/-- ITS FALSE NEIGHBOUR: 'it returns false'. Refute it at one input. -/
def turnsRoundWrong : ChangeSpec := { name := "turnsRound", fn := fun _ => fun
  | [d1, d2] => { results := [.lit (.bool false)], args := [d1, d2] }
  | _ => none }
def TurnsRoundWrongFalsely : Prop := turnsRoundRow.holds Try.pinned (OpenSpec.ofChange turnsRoundWrong)

/-- 'gannetlaw17.TurnsLater': WHATEVER THE INPUT: true; the input reads as it did. -/
def turnsLaterSpec : ChangeSpec := { name := "turnsLater", fn := fun _ => fun
  | [d1, d2] => { results := [.lit (.bool true)], args := [d1, d2] }
  | _ => none }
def turnsLaterRow : OpenClaim := { program := "ytnelcbbjnpaodaa", sum := "d9590ee39b27973c5cd54d42544b1fc0db6373bd1feac7c9df28d495f851f917", func := "gannet/gannetlaw17.TurnsLater", spec := "turnsLater", apart := false }
def TurnsLaterSaid : Prop := turnsLaterRow.holds Try.pinned (OpenSpec.ofChange turnsLaterSpec)

/-- ITS FALSE NEIGHBOUR: 'it returns false'. Refute it at one input. -/
def turnsLaterWrong : ChangeSpec := { name := "turnsLater", fn := fun _ => fun
  | [d1, d2] => { results := [.lit (.bool false)], args := [d1, d2] }
  | _ => none }
def TurnsLaterWrongFalsely : Prop := turnsLaterRow.holds Try.pinned (OpenSpec.ofChange turnsLaterWrong)

/-- 'gannetlaw17.TurnsWave': WHATEVER THE INPUT: true; the input reads as it did. -/
def turnsWaveSpec : ChangeSpec := { name := "turnsWave", fn := fun _ => fun
  | [d] => { results := [.lit (.bool true)], args := [d] }
  | _ => none }
def turnsWaveRow : OpenClaim := { program := "ytnelcbbjnpaodaa", sum := "d9590ee39b27973c5cd54d42544b1fc0db6373bd1feac7c9df28d495f851f917", func := "gannet/gannetlaw17.TurnsWave", spec := "turnsWave", apart := false }
def TurnsWaveSaid : Prop := turnsWaveRow.holds Try.pinned (OpenSpec.ofChange turnsWaveSpec)

/-- ITS FALSE NEIGHBOUR: 'it returns false'. Refute it at one input. -/
def turnsWaveWrong : ChangeSpec := { name := "turnsWave", fn := fun _ => fun
  | [d] => { results := [.lit (.bool false)], args := [d] }
  | _ => none }
def TurnsWaveWrongFalsely : Prop := turnsWaveRow.holds Try.pinned (OpenSpec.ofChange turnsWaveWrong)

/-- 'gannettop.TopRound': WHATEVER THE INPUT: true; the input reads as it did. -/
def topRoundSpec : ChangeSpec := { name := "topRound", fn := fun _ => fun
  | [d1, d2] => { results := [.lit (.bool true)], args := [d1, d2] }
  | _ => none }
def topRoundRow : OpenClaim := { program := "ytnelcbbjnpaodaa", sum := "d9590ee39b27973c5cd54d42544b1fc0db6373bd1feac7c9df28d495f851f917", func := "gannet/gannettop.TopRound", spec := "topRound", unfollowed := true, recurses := true, apart := false }
def TopRoundSaid : Prop := topRoundRow.holds Try.pinned (OpenSpec.ofChange topRoundSpec)

/-- ITS FALSE NEIGHBOUR: 'it returns false'. Refute it at one input. -/
def topRoundWrong : ChangeSpec := { name := "topRound", fn := fun _ => fun
  | [d1, d2] => { results := [.lit (.bool false)], args := [d1, d2] }
  | _ => none }
def TopRoundWrongFalsely : Prop := topRoundRow.holds Try.pinned (OpenSpec.ofChange topRoundWrong)

/- THE SECOND FORM. 'bulk': how many values and letters a reading holds, each counted each time it is reached (what is shared counts as often as it is met; a slice's spare places count too). A statement '..UptoSaid' is the law's where the arguments, and the package variables that the reading takes, are together of bulk at most 1048576: NARROWER than '..Said'. Prove '..Said' where nothing that the law and all that it calls make is longer than what came in: it says more and counts as full. Else prove '..UptoSaid'. A law counts once. -/
mutual
def uptoBulk {H : Type} : DataW H → Nat
  | .lit (.string bytes) => bytes.length + 1
  | .lit _ => 1
  | .nil => 1
  | .ptr d => uptoBulk d + 1
  | .slice elems spare => uptoBulkAll elems + uptoBulkAll spare + 1
  | .agg parts => uptoBulkAll parts + 1
  | .iface _ d => uptoBulk d + 1
  | .map entries => uptoBulkEntries entries + 1
  | .held _ => 1
def uptoBulkAll {H : Type} : List (DataW H) → Nat
  | [] => 0
  | d :: r => uptoBulk d + uptoBulkAll r
def uptoBulkEntries {H : Type} : List (Lit × DataW H) → Nat
  | [] => 0
  | x :: r => uptoBulkEntry x + uptoBulkEntries r
def uptoBulkEntry {H : Type} : Lit × DataW H → Nat
  | (.string bytes, d) => bytes.length + uptoBulk d + 1
  | (_, d) => uptoBulk d + 1
 end
def uptoSmall : (H : Type) → List (DataW H) → Bool := fun _ ds => decide (uptoBulkAll ds ≤ 1048576)
def OpenSpec.upto (s : _root_.Go.ChangeSpec) : _root_.Go.OpenSpec := { _root_.Go.OpenSpec.ofChange s with cond := some uptoSmall }

/-- 'gannetlaw17.TurnsTell', WHERE WHAT IT READS IS OF BULK AT MOST 1048576: true; the input reads as it did. -/
def turnsTellUptoRow : OpenClaim := { program := "ytnelcbbjnpaodaa", sum := "d9590ee39b27973c5cd54d42544b1fc0db6373bd1feac7c9df28d495f851f917", func := "gannet/gannetlaw17.TurnsTell", spec := "turnsTell", apart := false, narrowed := true }
def TurnsTellUptoSaid : Prop := turnsTellUptoRow.holds Try.pinned (OpenSpec.upto turnsTellSpec)

/-- 'gannetlaw17.TurnsBack', WHERE WHAT IT READS IS OF BULK AT MOST 1048576: true; the input reads as it did. -/
def turnsBackUptoRow : OpenClaim := { program := "ytnelcbbjnpaodaa", sum := "d9590ee39b27973c5cd54d42544b1fc0db6373bd1feac7c9df28d495f851f917", func := "gannet/gannetlaw17.TurnsBack", spec := "turnsBack", apart := false, narrowed := true }
def TurnsBackUptoSaid : Prop := turnsBackUptoRow.holds Try.pinned (OpenSpec.upto turnsBackSpec)

/-- 'gannetlaw17.TurnsRound', WHERE WHAT IT READS IS OF BULK AT MOST 1048576: true; the input reads as it did. -/
def turnsRoundUptoRow : OpenClaim := { program := "ytnelcbbjnpaodaa", sum := "d9590ee39b27973c5cd54d42544b1fc0db6373bd1feac7c9df28d495f851f917", func := "gannet/gannetlaw17.TurnsRound", spec := "turnsRound", apart := false, narrowed := true }
def TurnsRoundUptoSaid : Prop := turnsRoundUptoRow.holds Try.pinned (OpenSpec.upto turnsRoundSpec)

/-- 'gannetlaw17.TurnsLater', WHERE WHAT IT READS IS OF BULK AT MOST 1048576: true; the input reads as it did. -/
def turnsLaterUptoRow : OpenClaim := { program := "ytnelcbbjnpaodaa", sum := "d9590ee39b27973c5cd54d42544b1fc0db6373bd1feac7c9df28d495f851f917", func := "gannet/gannetlaw17.TurnsLater", spec := "turnsLater", apart := false, narrowed := true }
def TurnsLaterUptoSaid : Prop := turnsLaterUptoRow.holds Try.pinned (OpenSpec.upto turnsLaterSpec)

/-- 'gannetlaw17.TurnsWave', WHERE WHAT IT READS IS OF BULK AT MOST 1048576: true; the input reads as it did. -/
def turnsWaveUptoRow : OpenClaim := { program := "ytnelcbbjnpaodaa", sum := "d9590ee39b27973c5cd54d42544b1fc0db6373bd1feac7c9df28d495f851f917", func := "gannet/gannetlaw17.TurnsWave", spec := "turnsWave", apart := false, narrowed := true }
def TurnsWaveUptoSaid : Prop := turnsWaveUptoRow.holds Try.pinned (OpenSpec.upto turnsWaveSpec)

/-- 'gannettop.TopRound', WHERE WHAT IT READS IS OF BULK AT MOST 1048576: true; the input reads as it did. -/
def topRoundUptoRow : OpenClaim := { program := "ytnelcbbjnpaodaa", sum := "d9590ee39b27973c5cd54d42544b1fc0db6373bd1feac7c9df28d495f851f917", func := "gannet/gannettop.TopRound", spec := "topRound", unfollowed := true, recurses := true, apart := false, narrowed := true }
def TopRoundUptoSaid : Prop := topRoundUptoRow.holds Try.pinned (OpenSpec.upto topRoundSpec)

end Rows
end Go.Proofs.Ytnelcbbjnpaodaa
