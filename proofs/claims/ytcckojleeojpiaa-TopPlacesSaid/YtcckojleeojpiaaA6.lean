/-
  What the reference's Bit and Power answer; a byte, and a power from 0 to 7.
-/
import Derived.Test.YtcckojleeojpiaaA5
import Derived.Test.YtcckojleeojpiaaA4

namespace Go.Proofs.Ytcckojleeojpiaa
open Go.RowKit
/-- Bit n of a byte by halving, as the reference has it. -/
def rbit (b n : Int) : Bool := if 0 ≤ n ∧ n ≤ 7 then b / 2 ^ n.toNat % 2 == 1 else false
end Go.Proofs.Ytcckojleeojpiaa
