/-
  What the reference's With, Left, Right and digits answer, for every byte; they only make memory.
-/
import Derived.Test.YtkmcfmflihkdjaaDoorA7
import Derived.Deep.RegionWith
namespace Go.Proofs.YtkmcfmflihkdjaaDoor
open Go.RowKit
def bitsL (b : Int) : List Bool := [rbit b 0, rbit b 1, rbit b 2, rbit b 3, rbit b 4, rbit b 5, rbit b 6, rbit b 7]
def rwith (b n : Int) (on : Bool) : Int := if 0 ≤ n ∧ n ≤ 7 then ofTo ((bitsL b).set n.toNat on) 8 else b
end Go.Proofs.YtkmcfmflihkdjaaDoor
