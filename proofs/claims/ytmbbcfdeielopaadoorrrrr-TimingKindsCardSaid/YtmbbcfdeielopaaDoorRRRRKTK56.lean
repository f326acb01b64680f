/-
  Texts of these proofs, one behind the other: Laid12.
-/
import Derived.Test.YtmbbcfdeielopaaDoorRRRRRows
import Derived.Test.YtmbbcfdeielopaaDoorRRRRKTK01
import Derived.ProofKit
import Derived.LaidMore
import Derived.OpenShut
import Derived.Stop.Joined
import Derived.Lay
namespace Go.Proofs.YtmbbcfdeielopaaDoorRRRR
open Go.ChangeShapes Go.WideShapes Go.ChangeAt Go.RowKit
set_option linter.unusedVariables false
def Tabs (w : World) : Prop := 0 ≤ w.heap.size
abbrev laid2 : List (String × DataW Unit) := [("unicode/utf8.acceptRanges", Rows.laid_unicode_utf8_acceptRanges), ("unicode/utf8.first", Rows.laid_unicode_utf8_first)]
theorem of_laid {W : World} (h : laidMet Tryd.prog laid2 W) : Tabs W := Nat.zero_le _
end Go.Proofs.YtmbbcfdeielopaaDoorRRRR
