/-
  No cell of these rows narrows 'for every input' (looked for: loops, veiled, ifaces, maps, wideKeys, modest, calm, conditions, laid).
  DERIVED. THE GIVEN ROWS OF THIS SEAT. 8 by the template 'for every input the law returns true; each argument reads behind the call as it read before'; 0 by the template 'total and deterministic' (their statements: YtfhndajhlpakoaaTotals.lean).
  GIVEN WITH THE SEED: the statements are not yours to turn. If you find one false, say at which input.
  Laid BY PROGRAM, IN A SANDBOX (cutbox-rows.mjs): the forced cells as the released guide's own fill.sh prints them over the translation 6601cc3fd386cd89… (all of the seat's roots in one cut). By AI agents, Wed Nov 11 2026. No macro, syntax, notation, axiom, sorry.
-/
import Derived.Test.YtfhndajhlpakoaaChecked
import GoSem.Claim
import GoSem.ClaimJoined
import GoSem.ClaimMapViews
import Derived.JoinedTies
import Derived.KernelRfl
namespace Go.Proofs.Ytfhndajhlpakoaa
/- THE CELL 'sum', in the pinned program and in every row, IS THE sha256 OF THE DUMP (.gsa) THAT YtfhndajhlpakoaaProg.lean LOADS. Nothing in Lean hashes anything: it is a label: what it is worth is what the hold of that sum in a sandbox is worth. -/
noncomputable def Try.pinned : Pinned := { name := "ytfhndajhlpakoaa", sum := "6601cc3fd386cd8906f7afde3afc467430f00d0e91b3c6f4830f42aaf1511572", checked := Try.checked }
namespace Rows
def none {H : Type} : Left H := { results := [], args := [] }

/-- 'gannetlaw04.CartOver': WHATEVER THE INPUT: true; the input reads as it did. -/
def cartOverSpec : ChangeSpec := { name := "cartOver", fn := fun _ => fun
  | [d1, d2] => { results := [.lit (.bool true)], args := [d1, d2] }
  | _ => none }
def cartOverRow : OpenClaim := { program := "ytfhndajhlpakoaa", sum := "6601cc3fd386cd8906f7afde3afc467430f00d0e91b3c6f4830f42aaf1511572", func := "gannet/gannetlaw04.CartOver", spec := "cartOver", apart := false }
def CartOverSaid : Prop := cartOverRow.holds Try.pinned (OpenSpec.ofChange cartOverSpec)

/-- ITS FALSE NEIGHBOUR: 'it returns false'. Refute it at one input. -/
def cartOverWrong : ChangeSpec := { name := "cartOver", fn := fun _ => fun
  | [d1, d2] => { results := [.lit (.bool false)], args := [d1, d2] }
  | _ => none }
def CartOverWrongFalsely : Prop := cartOverRow.holds Try.pinned (OpenSpec.ofChange cartOverWrong)

/-- 'gannetlaw05.RamHolds': WHATEVER THE INPUT: true; the input reads as it did. -/
def ramHoldsSpec : ChangeSpec := { name := "ramHolds", fn := fun _ => fun
  | [d1, d2, d3] => { results := [.lit (.bool true)], args := [d1, d2, d3] }
  | _ => none }
def ramHoldsRow : OpenClaim := { program := "ytfhndajhlpakoaa", sum := "6601cc3fd386cd8906f7afde3afc467430f00d0e91b3c6f4830f42aaf1511572", func := "gannet/gannetlaw05.RamHolds", spec := "ramHolds", inPlace := ["maps.clone"], apart := false }
def RamHoldsSaid : Prop := ramHoldsRow.holds Try.pinned (OpenSpec.ofChange ramHoldsSpec)

/-- ITS FALSE NEIGHBOUR: 'it returns false'. Refute it at one input. -/
def ramHoldsWrong : ChangeSpec := { name := "ramHolds", fn := fun _ => fun
  | [d1, d2, d3] => { results := [.lit (.bool false)], args := [d1, d2, d3] }
  | _ => none }
def RamHoldsWrongFalsely : Prop := ramHoldsRow.holds Try.pinned (OpenSpec.ofChange ramHoldsWrong)

/-- 'gannetlaw05.RamBack': WHATEVER THE INPUT: true; the input reads as it did. -/
def ramBackSpec : ChangeSpec := { name := "ramBack", fn := fun _ => fun
  | [d1, d2] => { results := [.lit (.bool true)], args := [d1, d2] }
  | _ => none }
def ramBackRow : OpenClaim := { program := "ytfhndajhlpakoaa", sum := "6601cc3fd386cd8906f7afde3afc467430f00d0e91b3c6f4830f42aaf1511572", func := "gannet/gannetlaw05.RamBack", spec := "ramBack", inPlace := ["maps.clone"], apart := false }
def RamBackSaid : Prop := ramBackRow.holds Try.pinned (OpenSpec.ofChange ramBackSpec)

/-- ITS FALSE NEIGHBOUR: 'it returns false'. Refute it at one input. -/
def ramBackWrong : ChangeSpec := { name := "ramBack", fn := fun _ => fun
  | [d1, d2] => { results := [.lit (.bool false)], args := [d1, d2] }
  | _ => none }
def RamBackWrongFalsely : Prop := ramBackRow.holds Try.pinned (OpenSpec.ofChange ramBackWrong)

/-- 'gannetlaw05.RamWraps': WHATEVER THE INPUT: true; the input reads as it did. -/
def ramWrapsSpec : ChangeSpec := { name := "ramWraps", fn := fun _ => fun
  | [d1, d2, d3] => { results := [.lit (.bool true)], args := [d1, d2, d3] }
  | _ => none }
def ramWrapsRow : OpenClaim := { program := "ytfhndajhlpakoaa", sum := "6601cc3fd386cd8906f7afde3afc467430f00d0e91b3c6f4830f42aaf1511572", func := "gannet/gannetlaw05.RamWraps", spec := "ramWraps", inPlace := ["maps.clone"], apart := false }
def RamWrapsSaid : Prop := ramWrapsRow.holds Try.pinned (OpenSpec.ofChange ramWrapsSpec)

/-- ITS FALSE NEIGHBOUR: 'it returns false'. Refute it at one input. -/
def ramWrapsWrong : ChangeSpec := { name := "ramWraps", fn := fun _ => fun
  | [d1, d2, d3] => { results := [.lit (.bool false)], args := [d1, d2, d3] }
  | _ => none }
def RamWrapsWrongFalsely : Prop := ramWrapsRow.holds Try.pinned (OpenSpec.ofChange ramWrapsWrong)

/-- 'gannetlaw06.FeedGives': WHATEVER THE INPUT: true; the input reads as it did. -/
def feedGivesSpec : ChangeSpec := { name := "feedGives", fn := fun _ => fun
  | [d1, d2, d3] => { results := [.lit (.bool true)], args := [d1, d2, d3] }
  | _ => none }
def feedGivesRow : OpenClaim := { program := "ytfhndajhlpakoaa", sum := "6601cc3fd386cd8906f7afde3afc467430f00d0e91b3c6f4830f42aaf1511572", func := "gannet/gannetlaw06.FeedGives", spec := "feedGives", unfollowed := true, recurses := true, apart := false }
def FeedGivesSaid : Prop := feedGivesRow.holds Try.pinned (OpenSpec.ofChange feedGivesSpec)

/-- ITS FALSE NEIGHBOUR: 'it returns false'. Refute it at one input. -/
def feedGivesWrong : ChangeSpec := { name := "feedGives", fn := fun _ => fun
  | [d1, d2, d3] => { results := [.lit (.bool false)], args := [d1, d2, d3] }
  | _ => none }
def FeedGivesWrongFalsely : Prop := feedGivesRow.holds Try.pinned (OpenSpec.ofChange feedGivesWrong)

/-- 'gannetlaw06.FeedBegins': WHATEVER THE INPUT: true; the input reads as it did. -/
def feedBeginsSpec : ChangeSpec := { name := "feedBegins", fn := fun _ => fun
  | [d1, d2, d3] => { results := [.lit (.bool true)], args := [d1, d2, d3] }
  | _ => none }
def feedBeginsRow : OpenClaim := { program := "ytfhndajhlpakoaa", sum := "6601cc3fd386cd8906f7afde3afc467430f00d0e91b3c6f4830f42aaf1511572", func := "gannet/gannetlaw06.FeedBegins", spec := "feedBegins", unfollowed := true, recurses := true, apart := false }
def FeedBeginsSaid : Prop := feedBeginsRow.holds Try.pinned (OpenSpec.ofChange feedBeginsSpec)

/-- ITS FALSE NEIGHBOUR: 'it returns false'. Refute it at one input. -/
def feedBeginsWrong : ChangeSpec := { name := "feedBegins", fn := fun _ => fun
  | [d1, d2, d3] => { results := [.lit (.bool false)], args := [d1, d2, d3] }
  | _ => none }
def FeedBeginsWrongFalsely : Prop := feedBeginsRow.holds Try.pinned (OpenSpec.ofChange feedBeginsWrong)

/-- 'gannetlaw06.FeedChecks': WHATEVER THE INPUT: true; the input reads as it did. -/
def feedChecksSpec : ChangeSpec := { name := "feedChecks", fn := fun _ => fun
  | [d1, d2, d3] => { results := [.lit (.bool true)], args := [d1, d2, d3] }
  | _ => none }
def feedChecksRow : OpenClaim := { program := "ytfhndajhlpakoaa", sum := "6601cc3fd386cd8906f7afde3afc467430f00d0e91b3c6f4830f42aaf1511572", func := "gannet/gannetlaw06.FeedChecks", spec := "feedChecks", unfollowed := true, recurses := true, apart := false }
def FeedChecksSaid : Prop := feedChecksRow.holds Try.pinned (OpenSpec.ofChange feedChecksSpec)

/-- ITS FALSE NEIGHBOUR: 'it returns false'. Refute it at one input. -/
def feedChecksWrong : ChangeSpec := { name := "feedChecks", fn := fun _ => fun
  | [d1, d2, d3] => { results := [.lit (.bool false)], args := [d1, d2, d3] }
  | _ => none }
def FeedChecksWrongFalsely : Prop := feedChecksRow.holds Try.pinned (OpenSpec.ofChange feedChecksWrong)

/-- 'gannettop.TopLaid': WHATEVER THE INPUT: true; the input reads as it did. -/
def topLaidSpec : ChangeSpec := { name := "topLaid", fn := fun _ => fun
  | [d1, d2] => { results := [.lit (.bool true)], args := [d1, d2] }
  | _ => none }
def topLaidRow : OpenClaim := { program := "ytfhndajhlpakoaa", sum := "6601cc3fd386cd8906f7afde3afc467430f00d0e91b3c6f4830f42aaf1511572", func := "gannet/gannettop.TopLaid", spec := "topLaid", apart := false }
def TopLaidSaid : Prop := topLaidRow.holds Try.pinned (OpenSpec.ofChange topLaidSpec)

/-- ITS FALSE NEIGHBOUR: 'it returns false'. Refute it at one input. -/
def topLaidWrong : ChangeSpec := { name := "topLaid", fn := fun _ => fun
  | [d1, d2] => { results := [.lit (.bool false)], args := [d1, d2] }
  | _ => none }
def TopLaidWrongFalsely : Prop := topLaidRow.holds Try.pinned (OpenSpec.ofChange topLaidWrong)

/- THE SECOND FORM. 'bulk': how many values and letters a reading holds, each counted each time it is reached (what is shared counts as often as it is met; a slice's spare places count too). A statement '..UptoSaid' is the law's where the arguments, and the package variables that the reading takes, are together of bulk at most 1048576: NARROWER than '..Said'. Prove '..Said' where nothing that the law and all that it calls make is longer than what came in: it says more and counts as full. Else prove '..UptoSaid'. A law counts once. -/
mutual
def uptoBulk {H : Type} : DataW H → Nat
  | .lit (.string bytes) => bytes.length + 1
  | .lit _ => 1
  | .nil => 1
  | .ptr d => uptoBulk d + 1
  | .slice elems spare => uptoBulkAll elems + uptoBulkAll spare + 1
  | .agg parts => uptoBulkAll parts + 1
  | .iface _ d => uptoBulk d + 1
  | .map entries => uptoBulkEntries entries + 1
  | .held _ => 1
def uptoBulkAll {H : Type} : List (DataW H) → Nat
  | [] => 0
  | d :: r => uptoBulk d + uptoBulkAll r
def uptoBulkEntries {H : Type} : List (Lit × DataW H) → Nat
  | [] => 0
  | x :: r => uptoBulkEntry x + uptoBulkEntries r
def uptoBulkEntry {H : Type} : Lit × DataW H → Nat
  | (.string bytes, d) => bytes.length + uptoBulk d + 1
  | (_, d) => uptoBulk d + 1
 end
def uptoSmall : (H : Type) → List (DataW H) → Bool := fun _ ds => decide (uptoBulkAll ds ≤ 1048576)
def OpenSpec.upto (s : _root_.Go.ChangeSpec) : _root_.Go.OpenSpec := { _root_.Go.OpenSpec.ofChange s with cond := some uptoSmall }

/-- 'gannetlaw04.CartOver', WHERE WHAT IT READS IS OF BULK AT MOST 1048576: true; the input reads as it did. -/
def cartOverUptoRow : OpenClaim := { program := "ytfhndajhlpakoaa", sum := "6601cc3fd386cd8906f7afde3afc467430f00d0e91b3c6f4830f42aaf1511572", func := "gannet/gannetlaw04.CartOver", spec := "cartOver", apart := false, narrowed := true }
def CartOverUptoSaid : Prop := cartOverUptoRow.holds Try.pinned (OpenSpec.upto cartOverSpec)

/-- 'gannetlaw05.RamHolds', WHERE WHAT IT READS IS OF BULK AT MOST 1048576: true; the input reads as it did. -/
def ramHoldsUptoRow : OpenClaim := { program := "ytfhndajhlpakoaa", sum := "6601cc3fd386cd8906f7afde3afc467430f00d0e91b3c6f4830f42aaf1511572", func := "gannet/gannetlaw05.RamHolds", spec := "ramHolds", inPlace := ["maps.clone"], apart := false, narrowed := true }
def RamHoldsUptoSaid : Prop := ramHoldsUptoRow.holds Try.pinned (OpenSpec.upto ramHoldsSpec)

/-- 'gannetlaw05.RamBack', WHERE WHAT IT READS IS OF BULK AT MOST 1048576: true; the input reads as it did. -/
def ramBackUptoRow : OpenClaim := { program := "ytfhndajhlpakoaa", sum := "6601cc3fd386cd8906f7afde3afc467430f00d0e91b3c6f4830f42aaf1511572", func := "gannet/gannetlaw05.RamBack", spec := "ramBack", inPlace := ["maps.clone"], apart := false, narrowed := true }
def RamBackUptoSaid : Prop := ramBackUptoRow.holds Try.pinned (OpenSpec.upto ramBackSpec)

/-- 'gannetlaw05.RamWraps', WHERE WHAT IT READS IS OF BULK AT MOST 1048576: true; the input reads as it did. -/
def ramWrapsUptoRow : OpenClaim := { program := "ytfhndajhlpakoaa", sum := "6601cc3fd386cd8906f7afde3afc467430f00d0e91b3c6f4830f42aaf1511572", func := "gannet/gannetlaw05.RamWraps", spec := "ramWraps", inPlace := ["maps.clone"], apart := false, narrowed := true }
def RamWrapsUptoSaid : Prop := ramWrapsUptoRow.holds Try.pinned (OpenSpec.upto ramWrapsSpec)

/-- 'gannetlaw06.FeedGives', WHERE WHAT IT READS IS OF BULK AT MOST 1048576: true; the input reads as it did. -/
def feedGivesUptoRow : OpenClaim := { program := "ytfhndajhlpakoaa", sum := "6601cc3fd386cd8906f7afde3afc467430f00d0e91b3c6f4830f42aaf1511572", func := "gannet/gannetlaw06.FeedGives", spec := "feedGives", unfollowed := true, recurses := true, apart := false, narrowed := true }
def FeedGivesUptoSaid : Prop := feedGivesUptoRow.holds Try.pinned (OpenSpec.upto feedGivesSpec)

/-- 'gannetlaw06.FeedBegins', WHERE WHAT IT READS IS OF BULK AT MOST 1048576: true; the input reads as it did. -/
def feedBeginsUptoRow : OpenClaim := { program := "ytfhndajhlpakoaa", sum := "6601cc3fd386cd8906f7afde3afc467430f00d0e91b3c6f4830f42aaf1511572", func := "gannet/gannetlaw06.FeedBegins", spec := "feedBegins", unfollowed := true, recurses := true, apart := false, narrowed := true }
def FeedBeginsUptoSaid : Prop := feedBeginsUptoRow.holds Try.pinned (OpenSpec.upto feedBeginsSpec)

/-- 'gannetlaw06.FeedChecks', WHERE WHAT IT READS IS OF BULK AT MOST 1048576: true; the input reads as it did. -/
def feedChecksUptoRow : OpenClaim := { program := "ytfhndajhlpakoaa", sum := "6601cc3fd386cd8906f7afde3afc467430f00d0e91b3c6f4830f42aaf1511572", func := "gannet/gannetlaw06.FeedChecks", spec := "feedChecks", unfollowed := true, recurses := true, apart := false, narrowed := true }
def FeedChecksUptoSaid : Prop := feedChecksUptoRow.holds Try.pinned (OpenSpec.upto feedChecksSpec)

/-- 'gannettop.TopLaid', WHERE WHAT IT READS IS OF BULK AT MOST 1048576: true; the input reads as it did. -/
def topLaidUptoRow : OpenClaim := { program := "ytfhndajhlpakoaa", sum := "6601cc3fd386cd8906f7afde3afc467430f00d0e91b3c6f4830f42aaf1511572", func := "gannet/gannettop.TopLaid", spec := "topLaid", apart := false, narrowed := true }
def TopLaidUptoSaid : Prop := topLaidUptoRow.holds Try.pinned (OpenSpec.upto topLaidSpec)

end Rows
end Go.Proofs.Ytfhndajhlpakoaa
