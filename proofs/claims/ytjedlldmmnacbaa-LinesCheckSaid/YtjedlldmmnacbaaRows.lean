/-
  No cell of these rows narrows 'for every input' (looked for: loops, veiled, ifaces, maps, wideKeys, modest, calm, conditions, laid).
  DERIVED. THE GIVEN ROWS OF THIS SEAT. 8 by the template 'for every input the law returns true; each argument reads behind the call as it read before'; 0 by the template 'total and deterministic' (their statements: YtjedlldmmnacbaaTotals.lean).
  GIVEN WITH THE SEED: the statements are not yours to turn. If you find one false, say at which input.
  Laid BY PROGRAM, IN A SANDBOX (cutbox-rows.mjs): the forced cells as the released guide's own fill.sh prints them over the translation 232fc5b63066608a… (all of the seat's roots in one cut). By AI agents, Wed Nov 11 2026. No macro, syntax, notation, axiom, sorry.
-/
import Derived.Test.YtjedlldmmnacbaaChecked
import GoSem.Claim
import GoSem.ClaimJoined
import GoSem.ClaimMapViews
import Derived.JoinedTies
import Derived.KernelRfl
namespace Go.Proofs.Ytjedlldmmnacbaa
/- THE CELL 'sum', in the pinned program and in every row, IS THE sha256 OF THE DUMP (.gsa) THAT YtjedlldmmnacbaaProg.lean LOADS. Nothing in Lean hashes anything: it is a label: what it is worth is what the hold of that sum in a sandbox is worth. -/
noncomputable def Try.pinned : Pinned := { name := "ytjedlldmmnacbaa", sum := "232fc5b63066608afdbf65816364f0bc3b3a11f5b841c37bf53705b91887f4d6", checked := Try.checked }
namespace Rows
def none {H : Type} : Left H := { results := [], args := [] }

/-- 'gannetlaw07.LinesCheck': WHATEVER THE INPUT: true; the input reads as it did. -/
def linesCheckSpec : ChangeSpec := { name := "linesCheck", fn := fun _ => fun
  | [d] => { results := [.lit (.bool true)], args := [d] }
  | _ => none }
def linesCheckRow : OpenClaim := { program := "ytjedlldmmnacbaa", sum := "232fc5b63066608afdbf65816364f0bc3b3a11f5b841c37bf53705b91887f4d6", func := "gannet/gannetlaw07.LinesCheck", spec := "linesCheck", apart := false }
def LinesCheckSaid : Prop := linesCheckRow.holds Try.pinned (OpenSpec.ofChange linesCheckSpec)

/-- ITS FALSE NEIGHBOUR: 'it returns false'. Refute it at one input. -/
def linesCheckWrong : ChangeSpec := { name := "linesCheck", fn := fun _ => fun
  | [d] => { results := [.lit (.bool false)], args := [d] }
  | _ => none }
def LinesCheckWrongFalsely : Prop := linesCheckRow.holds Try.pinned (OpenSpec.ofChange linesCheckWrong)

/-- 'gannetlaw07.LinesAt': WHATEVER THE INPUT: true; the input reads as it did. -/
def linesAtSpec : ChangeSpec := { name := "linesAt", fn := fun _ => fun
  | [d1, d2, d3] => { results := [.lit (.bool true)], args := [d1, d2, d3] }
  | _ => none }
def linesAtRow : OpenClaim := { program := "ytjedlldmmnacbaa", sum := "232fc5b63066608afdbf65816364f0bc3b3a11f5b841c37bf53705b91887f4d6", func := "gannet/gannetlaw07.LinesAt", spec := "linesAt", apart := false }
def LinesAtSaid : Prop := linesAtRow.holds Try.pinned (OpenSpec.ofChange linesAtSpec)

/-- ITS FALSE NEIGHBOUR: 'it returns false'. Refute it at one input. -/
def linesAtWrong : ChangeSpec := { name := "linesAt", fn := fun _ => fun
  | [d1, d2, d3] => { results := [.lit (.bool false)], args := [d1, d2, d3] }
  | _ => none }
def LinesAtWrongFalsely : Prop := linesAtRow.holds Try.pinned (OpenSpec.ofChange linesAtWrong)

/-- 'gannetlaw07.LinesGo': WHATEVER THE INPUT: true; the input reads as it did. -/
def linesGoSpec : ChangeSpec := { name := "linesGo", fn := fun _ => fun
  | [d1, d2, d3] => { results := [.lit (.bool true)], args := [d1, d2, d3] }
  | _ => none }
def linesGoRow : OpenClaim := { program := "ytjedlldmmnacbaa", sum := "232fc5b63066608afdbf65816364f0bc3b3a11f5b841c37bf53705b91887f4d6", func := "gannet/gannetlaw07.LinesGo", spec := "linesGo", apart := false }
def LinesGoSaid : Prop := linesGoRow.holds Try.pinned (OpenSpec.ofChange linesGoSpec)

/-- ITS FALSE NEIGHBOUR: 'it returns false'. Refute it at one input. -/
def linesGoWrong : ChangeSpec := { name := "linesGo", fn := fun _ => fun
  | [d1, d2, d3] => { results := [.lit (.bool false)], args := [d1, d2, d3] }
  | _ => none }
def LinesGoWrongFalsely : Prop := linesGoRow.holds Try.pinned (OpenSpec.ofChange linesGoWrong)

/-- 'gannetlaw07.LinesStand': WHATEVER THE INPUT: true; the input reads as it did. -/
def linesStandSpec : ChangeSpec := { name := "linesStand", fn := fun _ => fun
  | [d1, d2, d3] => { results := [.lit (.bool true)], args := [d1, d2, d3] }
  | _ => none }
def linesStandRow : OpenClaim := { program := "ytjedlldmmnacbaa", sum := "232fc5b63066608afdbf65816364f0bc3b3a11f5b841c37bf53705b91887f4d6", func := "gannet/gannetlaw07.LinesStand", spec := "linesStand", apart := false }
def LinesStandSaid : Prop := linesStandRow.holds Try.pinned (OpenSpec.ofChange linesStandSpec)

/-- ITS FALSE NEIGHBOUR: 'it returns false'. Refute it at one input. -/
def linesStandWrong : ChangeSpec := { name := "linesStand", fn := fun _ => fun
  | [d1, d2, d3] => { results := [.lit (.bool false)], args := [d1, d2, d3] }
  | _ => none }
def LinesStandWrongFalsely : Prop := linesStandRow.holds Try.pinned (OpenSpec.ofChange linesStandWrong)

/-- 'gannetlaw08.LatchReads': WHATEVER THE INPUT: true; the input reads as it did. -/
def latchReadsSpec : ChangeSpec := { name := "latchReads", fn := fun _ => fun
  | [d1, d2, d3] => { results := [.lit (.bool true)], args := [d1, d2, d3] }
  | _ => none }
def latchReadsRow : OpenClaim := { program := "ytjedlldmmnacbaa", sum := "232fc5b63066608afdbf65816364f0bc3b3a11f5b841c37bf53705b91887f4d6", func := "gannet/gannetlaw08.LatchReads", spec := "latchReads", apart := false }
def LatchReadsSaid : Prop := latchReadsRow.holds Try.pinned (OpenSpec.ofChange latchReadsSpec)

/-- ITS FALSE NEIGHBOUR: 'it returns false'. Refute it at one input. -/
def latchReadsWrong : ChangeSpec := { name := "latchReads", fn := fun _ => fun
  | [d1, d2, d3] => { results := [.lit (.bool false)], args := [d1, d2, d3] }
  | _ => none }
def LatchReadsWrongFalsely : Prop := latchReadsRow.holds Try.pinned (OpenSpec.ofChange latchReadsWrong)

/-- 'gannetlaw08.LatchRows': WHATEVER THE INPUT: true; the input reads as it did. -/
def latchRowsSpec : ChangeSpec := { name := "latchRows", fn := fun _ => fun
  | [d1, d2] => { results := [.lit (.bool true)], args := [d1, d2] }
  | _ => none }
def latchRowsRow : OpenClaim := { program := "ytjedlldmmnacbaa", sum := "232fc5b63066608afdbf65816364f0bc3b3a11f5b841c37bf53705b91887f4d6", func := "gannet/gannetlaw08.LatchRows", spec := "latchRows", apart := false }
def LatchRowsSaid : Prop := latchRowsRow.holds Try.pinned (OpenSpec.ofChange latchRowsSpec)

/-- ITS FALSE NEIGHBOUR: 'it returns false'. Refute it at one input. -/
def latchRowsWrong : ChangeSpec := { name := "latchRows", fn := fun _ => fun
  | [d1, d2] => { results := [.lit (.bool false)], args := [d1, d2] }
  | _ => none }
def LatchRowsWrongFalsely : Prop := latchRowsRow.holds Try.pinned (OpenSpec.ofChange latchRowsWrong)

/-- 'gannetlaw08.LatchLast': WHATEVER THE INPUT: true; the input reads as it did. -/
def latchLastSpec : ChangeSpec := { name := "latchLast", fn := fun _ => fun
  | [d1, d2] => { results := [.lit (.bool true)], args := [d1, d2] }
  | _ => none }
def latchLastRow : OpenClaim := { program := "ytjedlldmmnacbaa", sum := "232fc5b63066608afdbf65816364f0bc3b3a11f5b841c37bf53705b91887f4d6", func := "gannet/gannetlaw08.LatchLast", spec := "latchLast", apart := false }
def LatchLastSaid : Prop := latchLastRow.holds Try.pinned (OpenSpec.ofChange latchLastSpec)

/-- ITS FALSE NEIGHBOUR: 'it returns false'. Refute it at one input. -/
def latchLastWrong : ChangeSpec := { name := "latchLast", fn := fun _ => fun
  | [d1, d2] => { results := [.lit (.bool false)], args := [d1, d2] }
  | _ => none }
def LatchLastWrongFalsely : Prop := latchLastRow.holds Try.pinned (OpenSpec.ofChange latchLastWrong)

/-- 'gannettop.TopBuffered': WHATEVER THE INPUT: true; the input reads as it did. -/
def topBufferedSpec : ChangeSpec := { name := "topBuffered", fn := fun _ => fun
  | [d1, d2, d3] => { results := [.lit (.bool true)], args := [d1, d2, d3] }
  | _ => none }
def topBufferedRow : OpenClaim := { program := "ytjedlldmmnacbaa", sum := "232fc5b63066608afdbf65816364f0bc3b3a11f5b841c37bf53705b91887f4d6", func := "gannet/gannettop.TopBuffered", spec := "topBuffered", apart := false }
def TopBufferedSaid : Prop := topBufferedRow.holds Try.pinned (OpenSpec.ofChange topBufferedSpec)

/-- ITS FALSE NEIGHBOUR: 'it returns false'. Refute it at one input. -/
def topBufferedWrong : ChangeSpec := { name := "topBuffered", fn := fun _ => fun
  | [d1, d2, d3] => { results := [.lit (.bool false)], args := [d1, d2, d3] }
  | _ => none }
def TopBufferedWrongFalsely : Prop := topBufferedRow.holds Try.pinned (OpenSpec.ofChange topBufferedWrong)

/- THE SECOND FORM. 'bulk': how many values and letters a reading holds, each counted each time it is reached (what is shared counts as often as it is met; a slice's spare places count too). A statement '..UptoSaid' is the law's where the arguments, and the package variables that the reading takes, are together of bulk at most 1048576: NARROWER than '..Said'. Prove '..Said' where nothing that the law and all that it calls make is longer than what came in: it says more and counts as full. Else prove '..UptoSaid'. A law counts once. -/
mutual
def uptoBulk {H : Type} : DataW H → Nat
  | .lit (.string bytes) => bytes.length + 1
  | .lit _ => 1
  | .nil => 1
  | .ptr d => uptoBulk d + 1
  | .slice elems spare => uptoBulkAll elems + uptoBulkAll spare + 1
  | .agg parts => uptoBulkAll parts + 1
  | .iface _ d => uptoBulk d + 1
  | .map entries => uptoBulkEntries entries + 1
  | .held _ => 1
def uptoBulkAll {H : Type} : List (DataW H) → Nat
  | [] => 0
  | d :: r => uptoBulk d + uptoBulkAll r
def uptoBulkEntries {H : Type} : List (Lit × DataW H) → Nat
  | [] => 0
  | x :: r => uptoBulkEntry x + uptoBulkEntries r
def uptoBulkEntry {H : Type} : Lit × DataW H → Nat
  | (.string bytes, d) => bytes.length + uptoBulk d + 1
  | (_, d) => uptoBulk d + 1
 end
def uptoSmall : (H : Type) → List (DataW H) → Bool := fun _ ds => decide (uptoBulkAll ds ≤ 1048576)
def OpenSpec.upto (s : _root_.Go.ChangeSpec) : _root_.Go.OpenSpec := { _root_.Go.OpenSpec.ofChange s with cond := some uptoSmall }

/-- 'gannetlaw07.LinesCheck', WHERE WHAT IT READS IS OF BULK AT MOST 1048576: true; the input reads as it did. -/
def linesCheckUptoRow : OpenClaim := { program := "ytjedlldmmnacbaa", sum := "232fc5b63066608afdbf65816364f0bc3b3a11f5b841c37bf53705b91887f4d6", func := "gannet/gannetlaw07.LinesCheck", spec := "linesCheck", apart := false, narrowed := true }
def LinesCheckUptoSaid : Prop := linesCheckUptoRow.holds Try.pinned (OpenSpec.upto linesCheckSpec)

/-- 'gannetlaw07.LinesAt', WHERE WHAT IT READS IS OF BULK AT MOST 1048576: true; the input reads as it did. -/
def linesAtUptoRow : OpenClaim := { program := "ytjedlldmmnacbaa", sum := "232fc5b63066608afdbf65816364f0bc3b3a11f5b841c37bf53705b91887f4d6", func := "gannet/gannetlaw07.LinesAt", spec := "linesAt", apart := false, narrowed := true }
def LinesAtUptoSaid : Prop := linesAtUptoRow.holds Try.pinned (OpenSpec.upto linesAtSpec)

/-- 'gannetlaw07.LinesGo', WHERE WHAT IT READS IS OF BULK AT MOST 1048576: true; the input reads as it did. -/
def linesGoUptoRow : OpenClaim := { program := "ytjedlldmmnacbaa", sum := "232fc5b63066608afdbf65816364f0bc3b3a11f5b841c37bf53705b91887f4d6", func := "gannet/gannetlaw07.LinesGo", spec := "linesGo", apart := false, narrowed := true }
def LinesGoUptoSaid : Prop := linesGoUptoRow.holds Try.pinned (OpenSpec.upto linesGoSpec)

/-- 'gannetlaw07.LinesStand', WHERE WHAT IT READS IS OF BULK AT MOST 1048576: true; the input reads as it did. -/
def linesStandUptoRow : OpenClaim := { program := "ytjedlldmmnacbaa", sum := "232fc5b63066608afdbf65816364f0bc3b3a11f5b841c37bf53705b91887f4d6", func := "gannet/gannetlaw07.LinesStand", spec := "linesStand", apart := false, narrowed := true }
def LinesStandUptoSaid : Prop := linesStandUptoRow.holds Try.pinned (OpenSpec.upto linesStandSpec)

/-- 'gannetlaw08.LatchReads', WHERE WHAT IT READS IS OF BULK AT MOST 1048576: true; the input reads as it did. -/
def latchReadsUptoRow : OpenClaim := { program := "ytjedlldmmnacbaa", sum := "232fc5b63066608afdbf65816364f0bc3b3a11f5b841c37bf53705b91887f4d6", func := "gannet/gannetlaw08.LatchReads", spec := "latchReads", apart := false, narrowed := true }
def LatchReadsUptoSaid : Prop := latchReadsUptoRow.holds Try.pinned (OpenSpec.upto latchReadsSpec)

/-- 'gannetlaw08.LatchRows', WHERE WHAT IT READS IS OF BULK AT MOST 1048576: true; the input reads as it did. -/
def latchRowsUptoRow : OpenClaim := { program := "ytjedlldmmnacbaa", sum := "232fc5b63066608afdbf65816364f0bc3b3a11f5b841c37bf53705b91887f4d6", func := "gannet/gannetlaw08.LatchRows", spec := "latchRows", apart := false, narrowed := true }
def LatchRowsUptoSaid : Prop := latchRowsUptoRow.holds Try.pinned (OpenSpec.upto latchRowsSpec)

/-- 'gannetlaw08.LatchLast', WHERE WHAT IT READS IS OF BULK AT MOST 1048576: true; the input reads as it did. -/
def latchLastUptoRow : OpenClaim := { program := "ytjedlldmmnacbaa", sum := "232fc5b63066608afdbf65816364f0bc3b3a11f5b841c37bf53705b91887f4d6", func := "gannet/gannetlaw08.LatchLast", spec := "latchLast", apart := false, narrowed := true }
def LatchLastUptoSaid : Prop := latchLastUptoRow.holds Try.pinned (OpenSpec.upto latchLastSpec)

/-- 'gannettop.TopBuffered', WHERE WHAT IT READS IS OF BULK AT MOST 1048576: true; the input reads as it did. -/
def topBufferedUptoRow : OpenClaim := { program := "ytjedlldmmnacbaa", sum := "232fc5b63066608afdbf65816364f0bc3b3a11f5b841c37bf53705b91887f4d6", func := "gannet/gannettop.TopBuffered", spec := "topBuffered", apart := false, narrowed := true }
def TopBufferedUptoSaid : Prop := topBufferedUptoRow.holds Try.pinned (OpenSpec.upto topBufferedSpec)

end Rows
end Go.Proofs.Ytjedlldmmnacbaa
