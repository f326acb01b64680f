/-
  A channel of sound: Go (by wip/tools/genwav2.py).
-/
import Derived.Test.YtaamfcbpelbboaaDoorWav1
namespace Go.Proofs.YtaamfcbpelbboaaDoor
open Go.RowKit
set_option linter.unusedVariables false
set_option linter.unusedSimpArgs false
set_option maxRecDepth 100000
section
variable {w : World} {g : Nat} {x : Cw}
end
end Go.Proofs.YtaamfcbpelbboaaDoor
