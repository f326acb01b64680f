/-
  No cell of these rows narrows 'for every input' (looked for: loops, veiled, ifaces, maps, wideKeys, modest, calm, conditions, laid).
  DERIVED. THE GIVEN ROWS OF THIS SEAT. 9 by the template 'for every input the law returns true; each argument reads behind the call as it read before'; 0 by the template 'total and deterministic' (their statements: YtcckojleeojpiaaTotals.lean).
  GIVEN WITH THE SEED: the statements are not yours to turn. If you find one false, say at which input.
  Laid BY PROGRAM, IN A SANDBOX (cutbox-rows.mjs): the forced cells as the released guide's own fill.sh prints them over the translation aad10667a6bf14b9… (all of the seat's roots in one cut). By AI agents, Wed Nov 11 2026. No macro, syntax, notation, axiom, sorry.
-/
import Derived.Test.YtcckojleeojpiaaChecked
import GoSem.Claim
import GoSem.ClaimJoined
import GoSem.ClaimMapViews
import Derived.JoinedTies
import Derived.KernelRfl
namespace Go.Proofs.Ytcckojleeojpiaa
/- THE CELL 'sum', in the pinned program and in every row, IS THE sha256 OF THE DUMP (.gsa) THAT YtcckojleeojpiaaProg.lean LOADS. Nothing in Lean hashes anything: it is a label: what it is worth is what the hold of that sum in a sandbox is worth. -/
noncomputable def Try.pinned : Pinned := { name := "ytcckojleeojpiaa", sum := "aad10667a6bf14b9b3e98a11ebec0920bb22e09dd5be92f50dd3b3650ae9268a", checked := Try.checked }
namespace Rows
def none {H : Type} : Left H := { results := [], args := [] }

/-- 'gannetlaw03.PhysParts': WHATEVER THE INPUT: true; the input reads as it did. -/
def physPartsSpec : ChangeSpec := { name := "physParts", fn := fun _ => fun
  | [d1, d2, d3] => { results := [.lit (.bool true)], args := [d1, d2, d3] }
  | _ => none }
def physPartsRow : OpenClaim := { program := "ytcckojleeojpiaa", sum := "aad10667a6bf14b9b3e98a11ebec0920bb22e09dd5be92f50dd3b3650ae9268a", func := "gannet/gannetlaw03.PhysParts", spec := "physParts", inPlace := ["internal/bytealg.IndexByteString", "internal/bytealg.IndexString"], named := ["internal/bytealg.MaxLen"], apart := false }
def PhysPartsSaid : Prop := physPartsRow.holds Try.pinned (OpenSpec.ofChange physPartsSpec)

/-- ITS FALSE NEIGHBOUR: 'it returns false'. Refute it at one input. -/
def physPartsWrong : ChangeSpec := { name := "physParts", fn := fun _ => fun
  | [d1, d2, d3] => { results := [.lit (.bool false)], args := [d1, d2, d3] }
  | _ => none }
def PhysPartsWrongFalsely : Prop := physPartsRow.holds Try.pinned (OpenSpec.ofChange physPartsWrong)

/-- 'gannetlaw03.PhysTells': WHATEVER THE INPUT: true; the input reads as it did. -/
def physTellsSpec : ChangeSpec := { name := "physTells", fn := fun _ => fun
  | [d] => { results := [.lit (.bool true)], args := [d] }
  | _ => none }
def physTellsRow : OpenClaim := { program := "ytcckojleeojpiaa", sum := "aad10667a6bf14b9b3e98a11ebec0920bb22e09dd5be92f50dd3b3650ae9268a", func := "gannet/gannetlaw03.PhysTells", spec := "physTells", inPlace := ["internal/bytealg.IndexByteString", "internal/bytealg.IndexString"], named := ["internal/bytealg.MaxLen"], apart := false }
def PhysTellsSaid : Prop := physTellsRow.holds Try.pinned (OpenSpec.ofChange physTellsSpec)

/-- ITS FALSE NEIGHBOUR: 'it returns false'. Refute it at one input. -/
def physTellsWrong : ChangeSpec := { name := "physTells", fn := fun _ => fun
  | [d] => { results := [.lit (.bool false)], args := [d] }
  | _ => none }
def PhysTellsWrongFalsely : Prop := physTellsRow.holds Try.pinned (OpenSpec.ofChange physTellsWrong)

/-- 'gannetlaw03.PhysTexts': WHATEVER THE INPUT: true; the input reads as it did. -/
def physTextsSpec : ChangeSpec := { name := "physTexts", fn := fun _ => fun
  | [d1, d2] => { results := [.lit (.bool true)], args := [d1, d2] }
  | _ => none }
def physTextsRow : OpenClaim := { program := "ytcckojleeojpiaa", sum := "aad10667a6bf14b9b3e98a11ebec0920bb22e09dd5be92f50dd3b3650ae9268a", func := "gannet/gannetlaw03.PhysTexts", spec := "physTexts", inPlace := ["internal/bytealg.IndexByteString", "internal/bytealg.IndexString"], named := ["internal/bytealg.MaxLen"], apart := false }
def PhysTextsSaid : Prop := physTextsRow.holds Try.pinned (OpenSpec.ofChange physTextsSpec)

/-- ITS FALSE NEIGHBOUR: 'it returns false'. Refute it at one input. -/
def physTextsWrong : ChangeSpec := { name := "physTexts", fn := fun _ => fun
  | [d1, d2] => { results := [.lit (.bool false)], args := [d1, d2] }
  | _ => none }
def PhysTextsWrongFalsely : Prop := physTextsRow.holds Try.pinned (OpenSpec.ofChange physTextsWrong)

/-- 'gannetlaw03.PhysSpans': WHATEVER THE INPUT: true; the input reads as it did. -/
def physSpansSpec : ChangeSpec := { name := "physSpans", fn := fun _ => fun
  | [d1, d2] => { results := [.lit (.bool true)], args := [d1, d2] }
  | _ => none }
def physSpansRow : OpenClaim := { program := "ytcckojleeojpiaa", sum := "aad10667a6bf14b9b3e98a11ebec0920bb22e09dd5be92f50dd3b3650ae9268a", func := "gannet/gannetlaw03.PhysSpans", spec := "physSpans", inPlace := ["internal/bytealg.IndexByteString", "internal/bytealg.IndexString"], named := ["internal/bytealg.MaxLen"], apart := false }
def PhysSpansSaid : Prop := physSpansRow.holds Try.pinned (OpenSpec.ofChange physSpansSpec)

/-- ITS FALSE NEIGHBOUR: 'it returns false'. Refute it at one input. -/
def physSpansWrong : ChangeSpec := { name := "physSpans", fn := fun _ => fun
  | [d1, d2] => { results := [.lit (.bool false)], args := [d1, d2] }
  | _ => none }
def PhysSpansWrongFalsely : Prop := physSpansRow.holds Try.pinned (OpenSpec.ofChange physSpansWrong)

/-- 'gannetlaw04.CartMakes': WHATEVER THE INPUT: true; the input reads as it did. -/
def cartMakesSpec : ChangeSpec := { name := "cartMakes", fn := fun _ => fun
  | [d1, d2] => { results := [.lit (.bool true)], args := [d1, d2] }
  | _ => none }
def cartMakesRow : OpenClaim := { program := "ytcckojleeojpiaa", sum := "aad10667a6bf14b9b3e98a11ebec0920bb22e09dd5be92f50dd3b3650ae9268a", func := "gannet/gannetlaw04.CartMakes", spec := "cartMakes", apart := false }
def CartMakesSaid : Prop := cartMakesRow.holds Try.pinned (OpenSpec.ofChange cartMakesSpec)

/-- ITS FALSE NEIGHBOUR: 'it returns false'. Refute it at one input. -/
def cartMakesWrong : ChangeSpec := { name := "cartMakes", fn := fun _ => fun
  | [d1, d2] => { results := [.lit (.bool false)], args := [d1, d2] }
  | _ => none }
def CartMakesWrongFalsely : Prop := cartMakesRow.holds Try.pinned (OpenSpec.ofChange cartMakesWrong)

/-- 'gannetlaw04.CartPieces': WHATEVER THE INPUT: true; the input reads as it did. -/
def cartPiecesSpec : ChangeSpec := { name := "cartPieces", fn := fun _ => fun
  | [d] => { results := [.lit (.bool true)], args := [d] }
  | _ => none }
def cartPiecesRow : OpenClaim := { program := "ytcckojleeojpiaa", sum := "aad10667a6bf14b9b3e98a11ebec0920bb22e09dd5be92f50dd3b3650ae9268a", func := "gannet/gannetlaw04.CartPieces", spec := "cartPieces", apart := false }
def CartPiecesSaid : Prop := cartPiecesRow.holds Try.pinned (OpenSpec.ofChange cartPiecesSpec)

/-- ITS FALSE NEIGHBOUR: 'it returns false'. Refute it at one input. -/
def cartPiecesWrong : ChangeSpec := { name := "cartPieces", fn := fun _ => fun
  | [d] => { results := [.lit (.bool false)], args := [d] }
  | _ => none }
def CartPiecesWrongFalsely : Prop := cartPiecesRow.holds Try.pinned (OpenSpec.ofChange cartPiecesWrong)

/-- 'gannetlaw04.CartPrograms': WHATEVER THE INPUT: true; the input reads as it did. -/
def cartProgramsSpec : ChangeSpec := { name := "cartPrograms", fn := fun _ => fun
  | [d1, d2, d3] => { results := [.lit (.bool true)], args := [d1, d2, d3] }
  | _ => none }
def cartProgramsRow : OpenClaim := { program := "ytcckojleeojpiaa", sum := "aad10667a6bf14b9b3e98a11ebec0920bb22e09dd5be92f50dd3b3650ae9268a", func := "gannet/gannetlaw04.CartPrograms", spec := "cartPrograms", apart := false }
def CartProgramsSaid : Prop := cartProgramsRow.holds Try.pinned (OpenSpec.ofChange cartProgramsSpec)

/-- ITS FALSE NEIGHBOUR: 'it returns false'. Refute it at one input. -/
def cartProgramsWrong : ChangeSpec := { name := "cartPrograms", fn := fun _ => fun
  | [d1, d2, d3] => { results := [.lit (.bool false)], args := [d1, d2, d3] }
  | _ => none }
def CartProgramsWrongFalsely : Prop := cartProgramsRow.holds Try.pinned (OpenSpec.ofChange cartProgramsWrong)

/-- 'gannetlaw04.CartOver': WHATEVER THE INPUT: true; the input reads as it did. -/
def cartOverSpec : ChangeSpec := { name := "cartOver", fn := fun _ => fun
  | [d1, d2] => { results := [.lit (.bool true)], args := [d1, d2] }
  | _ => none }
def cartOverRow : OpenClaim := { program := "ytcckojleeojpiaa", sum := "aad10667a6bf14b9b3e98a11ebec0920bb22e09dd5be92f50dd3b3650ae9268a", func := "gannet/gannetlaw04.CartOver", spec := "cartOver", apart := false }
def CartOverSaid : Prop := cartOverRow.holds Try.pinned (OpenSpec.ofChange cartOverSpec)

/-- ITS FALSE NEIGHBOUR: 'it returns false'. Refute it at one input. -/
def cartOverWrong : ChangeSpec := { name := "cartOver", fn := fun _ => fun
  | [d1, d2] => { results := [.lit (.bool false)], args := [d1, d2] }
  | _ => none }
def CartOverWrongFalsely : Prop := cartOverRow.holds Try.pinned (OpenSpec.ofChange cartOverWrong)

/-- 'gannettop.TopPlaces': WHATEVER THE INPUT: true; the input reads as it did. -/
def topPlacesSpec : ChangeSpec := { name := "topPlaces", fn := fun _ => fun
  | [d1, d2, d3] => { results := [.lit (.bool true)], args := [d1, d2, d3] }
  | _ => none }
def topPlacesRow : OpenClaim := { program := "ytcckojleeojpiaa", sum := "aad10667a6bf14b9b3e98a11ebec0920bb22e09dd5be92f50dd3b3650ae9268a", func := "gannet/gannettop.TopPlaces", spec := "topPlaces", inPlace := ["internal/bytealg.IndexByteString", "internal/bytealg.IndexString"], named := ["internal/bytealg.MaxLen"], apart := false }
def TopPlacesSaid : Prop := topPlacesRow.holds Try.pinned (OpenSpec.ofChange topPlacesSpec)

/-- ITS FALSE NEIGHBOUR: 'it returns false'. Refute it at one input. -/
def topPlacesWrong : ChangeSpec := { name := "topPlaces", fn := fun _ => fun
  | [d1, d2, d3] => { results := [.lit (.bool false)], args := [d1, d2, d3] }
  | _ => none }
def TopPlacesWrongFalsely : Prop := topPlacesRow.holds Try.pinned (OpenSpec.ofChange topPlacesWrong)

/- THE SECOND FORM. 'bulk': how many values and letters a reading holds, each counted each time it is reached (what is shared counts as often as it is met; a slice's spare places count too). A statement '..UptoSaid' is the law's where the arguments, and the package variables that the reading takes, are together of bulk at most 1048576: NARROWER than '..Said'. Prove '..Said' where nothing that the law and all that it calls make is longer than what came in: it says more and counts as full. Else prove '..UptoSaid'. A law counts once. -/
mutual
def uptoBulk {H : Type} : DataW H → Nat
  | .lit (.string bytes) => bytes.length + 1
  | .lit _ => 1
  | .nil => 1
  | .ptr d => uptoBulk d + 1
  | .slice elems spare => uptoBulkAll elems + uptoBulkAll spare + 1
  | .agg parts => uptoBulkAll parts + 1
  | .iface _ d => uptoBulk d + 1
  | .map entries => uptoBulkEntries entries + 1
  | .held _ => 1
def uptoBulkAll {H : Type} : List (DataW H) → Nat
  | [] => 0
  | d :: r => uptoBulk d + uptoBulkAll r
def uptoBulkEntries {H : Type} : List (Lit × DataW H) → Nat
  | [] => 0
  | x :: r => uptoBulkEntry x + uptoBulkEntries r
def uptoBulkEntry {H : Type} : Lit × DataW H → Nat
  | (.string bytes, d) => bytes.length + uptoBulk d + 1
  | (_, d) => uptoBulk d + 1
 end
def uptoSmall : (H : Type) → List (DataW H) → Bool := fun _ ds => decide (uptoBulkAll ds ≤ 1048576)
def OpenSpec.upto (s : _root_.Go.ChangeSpec) : _root_.Go.OpenSpec := { _root_.Go.OpenSpec.ofChange s with cond := some uptoSmall }

/-- 'gannetlaw03.PhysParts', WHERE WHAT IT READS IS OF BULK AT MOST 1048576: true; the input reads as it did. -/
def physPartsUptoRow : OpenClaim := { program := "ytcckojleeojpiaa", sum := "aad10667a6bf14b9b3e98a11ebec0920bb22e09dd5be92f50dd3b3650ae9268a", func := "gannet/gannetlaw03.PhysParts", spec := "physParts", inPlace := ["internal/bytealg.IndexByteString", "internal/bytealg.IndexString"], named := ["internal/bytealg.MaxLen"], apart := false, narrowed := true }
def PhysPartsUptoSaid : Prop := physPartsUptoRow.holds Try.pinned (OpenSpec.upto physPartsSpec)

/-- 'gannetlaw03.PhysTells', WHERE WHAT IT READS IS OF BULK AT MOST 1048576: true; the input reads as it did. -/
def physTellsUptoRow : OpenClaim := { program := "ytcckojleeojpiaa", sum := "aad10667a6bf14b9b3e98a11ebec0920bb22e09dd5be92f50dd3b3650ae9268a", func := "gannet/gannetlaw03.PhysTells", spec := "physTells", inPlace := ["internal/bytealg.IndexByteString", "internal/bytealg.IndexString"], named := ["internal/bytealg.MaxLen"], apart := false, narrowed := true }
def PhysTellsUptoSaid : Prop := physTellsUptoRow.holds Try.pinned (OpenSpec.upto physTellsSpec)

/-- 'gannetlaw03.PhysTexts', WHERE WHAT IT READS IS OF BULK AT MOST 1048576: true; the input reads as it did. -/
def physTextsUptoRow : OpenClaim := { program := "ytcckojleeojpiaa", sum := "aad10667a6bf14b9b3e98a11ebec0920bb22e09dd5be92f50dd3b3650ae9268a", func := "gannet/gannetlaw03.PhysTexts", spec := "physTexts", inPlace := ["internal/bytealg.IndexByteString", "internal/bytealg.IndexString"], named := ["internal/bytealg.MaxLen"], apart := false, narrowed := true }
def PhysTextsUptoSaid : Prop := physTextsUptoRow.holds Try.pinned (OpenSpec.upto physTextsSpec)

/-- 'gannetlaw03.PhysSpans', WHERE WHAT IT READS IS OF BULK AT MOST 1048576: true; the input reads as it did. -/
def physSpansUptoRow : OpenClaim := { program := "ytcckojleeojpiaa", sum := "aad10667a6bf14b9b3e98a11ebec0920bb22e09dd5be92f50dd3b3650ae9268a", func := "gannet/gannetlaw03.PhysSpans", spec := "physSpans", inPlace := ["internal/bytealg.IndexByteString", "internal/bytealg.IndexString"], named := ["internal/bytealg.MaxLen"], apart := false, narrowed := true }
def PhysSpansUptoSaid : Prop := physSpansUptoRow.holds Try.pinned (OpenSpec.upto physSpansSpec)

/-- 'gannetlaw04.CartMakes', WHERE WHAT IT READS IS OF BULK AT MOST 1048576: true; the input reads as it did. -/
def cartMakesUptoRow : OpenClaim := { program := "ytcckojleeojpiaa", sum := "aad10667a6bf14b9b3e98a11ebec0920bb22e09dd5be92f50dd3b3650ae9268a", func := "gannet/gannetlaw04.CartMakes", spec := "cartMakes", apart := false, narrowed := true }
def CartMakesUptoSaid : Prop := cartMakesUptoRow.holds Try.pinned (OpenSpec.upto cartMakesSpec)

/-- 'gannetlaw04.CartPieces', WHERE WHAT IT READS IS OF BULK AT MOST 1048576: true; the input reads as it did. -/
def cartPiecesUptoRow : OpenClaim := { program := "ytcckojleeojpiaa", sum := "aad10667a6bf14b9b3e98a11ebec0920bb22e09dd5be92f50dd3b3650ae9268a", func := "gannet/gannetlaw04.CartPieces", spec := "cartPieces", apart := false, narrowed := true }
def CartPiecesUptoSaid : Prop := cartPiecesUptoRow.holds Try.pinned (OpenSpec.upto cartPiecesSpec)

/-- 'gannetlaw04.CartPrograms', WHERE WHAT IT READS IS OF BULK AT MOST 1048576: true; the input reads as it did. -/
def cartProgramsUptoRow : OpenClaim := { program := "ytcckojleeojpiaa", sum := "aad10667a6bf14b9b3e98a11ebec0920bb22e09dd5be92f50dd3b3650ae9268a", func := "gannet/gannetlaw04.CartPrograms", spec := "cartPrograms", apart := false, narrowed := true }
def CartProgramsUptoSaid : Prop := cartProgramsUptoRow.holds Try.pinned (OpenSpec.upto cartProgramsSpec)

/-- 'gannetlaw04.CartOver', WHERE WHAT IT READS IS OF BULK AT MOST 1048576: true; the input reads as it did. -/
def cartOverUptoRow : OpenClaim := { program := "ytcckojleeojpiaa", sum := "aad10667a6bf14b9b3e98a11ebec0920bb22e09dd5be92f50dd3b3650ae9268a", func := "gannet/gannetlaw04.CartOver", spec := "cartOver", apart := false, narrowed := true }
def CartOverUptoSaid : Prop := cartOverUptoRow.holds Try.pinned (OpenSpec.upto cartOverSpec)

/-- 'gannettop.TopPlaces', WHERE WHAT IT READS IS OF BULK AT MOST 1048576: true; the input reads as it did. -/
def topPlacesUptoRow : OpenClaim := { program := "ytcckojleeojpiaa", sum := "aad10667a6bf14b9b3e98a11ebec0920bb22e09dd5be92f50dd3b3650ae9268a", func := "gannet/gannettop.TopPlaces", spec := "topPlaces", inPlace := ["internal/bytealg.IndexByteString", "internal/bytealg.IndexString"], named := ["internal/bytealg.MaxLen"], apart := false, narrowed := true }
def TopPlacesUptoSaid : Prop := topPlacesUptoRow.holds Try.pinned (OpenSpec.upto topPlacesSpec)

end Rows
end Go.Proofs.Ytcckojleeojpiaa
