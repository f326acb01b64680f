/-
  What the reference's Bit and Power answer; a byte, and a power from 0 to 7.
-/
import Derived.Test.YtkmcfmflihkdjaaDoorA5
import Derived.Test.YtkmcfmflihkdjaaDoorA4

namespace Go.Proofs.YtkmcfmflihkdjaaDoor
open Go.RowKit
/-- Bit n of a byte by halving, as the reference has it. -/
def rbit (b n : Int) : Bool := if 0 ≤ n ∧ n ≤ 7 then b / 2 ^ n.toNat % 2 == 1 else false
end Go.Proofs.YtkmcfmflihkdjaaDoor
