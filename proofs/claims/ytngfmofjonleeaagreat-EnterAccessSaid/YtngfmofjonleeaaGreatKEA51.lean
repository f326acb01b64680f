/-
  Texts of these proofs, one behind the other: Rh7.
-/
import Derived.Test.YtngfmofjonleeaaGreatKEA32
import Derived.RegionTactic
import Derived.BigRegion
namespace Go.Proofs.YtngfmofjonleeaaGreat
open Go.RowKit
set_option linter.unusedVariables false
set_option linter.unusedSimpArgs false
set_option maxRecDepth 100000
section
variable {w : World} {r : Nat} {d : Hd} {J : Rr} {Z : Rz} {x : Hp}
end
end Go.Proofs.YtngfmofjonleeaaGreat
