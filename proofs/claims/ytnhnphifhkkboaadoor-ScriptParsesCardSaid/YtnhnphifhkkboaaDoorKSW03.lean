/-
  Texts of these proofs, one behind the other: A1.
-/
import Derived.Test.YtnhnphifhkkboaaDoorProg
import Derived.WalkKit
import Derived.WalkSpells
import Derived.WalkLawsBesides
import Derived.BigQuiet
import Derived.Deep.QuietTactic
import Derived.Lib.Hide
namespace Go.Proofs.YtnhnphifhkkboaaDoor
open Go.RowKit

def maskI (n : Int) : Int := if 0 ≤ n ∧ n ≤ 7 then 2 ^ n.toNat else 0
def bitB (b n : Int) : Bool := bits .and .u8 b (maskI n) != 0
def withI (b n : Int) (on : Bool) : Int := if on then bits .or .u8 b (maskI n) else bits .andNot .u8 b (maskI n)
def wordI (lo hi : Int) : Int := bits .or .u16 (IntKind.u16.wrap (IntKind.u16.wrap hi * 256)) (IntKind.u16.wrap lo)
end Go.Proofs.YtnhnphifhkkboaaDoor
