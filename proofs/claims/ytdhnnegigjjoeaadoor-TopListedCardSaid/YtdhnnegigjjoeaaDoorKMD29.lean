/-
  Texts of these proofs, one behind the other: A6.
-/
import Derived.Test.YtdhnnegigjjoeaaDoorKMD20
import Derived.Test.YtdhnnegigjjoeaaDoorKMD22
namespace Go.Proofs.YtdhnnegigjjoeaaDoor
open Go.RowKit
/-- Bit n of a byte by halving, as the reference has it. -/
def rbit (b n : Int) : Bool := if 0 ≤ n ∧ n ≤ 7 then b / 2 ^ n.toNat % 2 == 1 else false
end Go.Proofs.YtdhnnegigjjoeaaDoor
