/-
  The row's condition on package-level variables: the walks lean on none of them.
-/
import Derived.Test.YtleofglnlfpoeaaDoorRows
import Derived.Test.YtleofglnlfpoeaaDoorG3
import Derived.ProofKit
import Derived.LaidMore
import Derived.OpenShut
import Derived.Stop.Joined
import Derived.Lay
namespace Go.Proofs.YtleofglnlfpoeaaDoor
open Go.ChangeShapes Go.WideShapes Go.ChangeAt Go.RowKit
set_option linter.unusedVariables false
def Tabs (w : World) : Prop := 0 ≤ w.heap.size
abbrev laid2 : List (String × DataW Unit) := [("unicode/utf8.acceptRanges", Rows.laid_unicode_utf8_acceptRanges), ("unicode/utf8.first", Rows.laid_unicode_utf8_first)]
theorem of_laid {W : World} (h : laidMet Tryd.prog laid2 W) : Tabs W := Nat.zero_le _
end Go.Proofs.YtleofglnlfpoeaaDoor
