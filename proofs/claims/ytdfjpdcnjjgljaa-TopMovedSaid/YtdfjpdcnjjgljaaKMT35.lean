/-
  Texts of these proofs, one behind the other: Cart4.
-/
import Derived.Test.YtdfjpdcnjjgljaaKMT34
import Derived.Test.YtdfjpdcnjjgljaaKMT25
import Derived.Test.YtdfjpdcnjjgljaaKMT05
namespace Go.Proofs.Ytdfjpdcnjjgljaa
open Go.RowKit
set_option linter.unusedVariables false
def readI (n : Nat) (z : Nat → Int) (a : Int) : Int := if whereI a = 0 ∧ a % 2097152 < n then z (a % 2097152).toNat else 255
end Go.Proofs.Ytdfjpdcnjjgljaa
